package tests

import (
	"math"
	"slices"
	"strings"
	"testing"

	"loop.example/g00642/impl"
)

// someTerm draws from few values, so that terms come up again, and from the edges,
// so that some may not be.
func someTerm(d *dice, terms int) impl.Term {
	atoms := []int{0, 1, 2, 3, 998, 999, 999, 1000, -1}
	words := []string{"", "a", "b", "ab", strings.Repeat("x", 300), strings.Repeat("x", 301)}
	place := func() int { return d.below(terms+2) - 1 }
	switch kind := d.below(8); kind {
	case impl.TmNonce, impl.TmKey:
		return bare(kind, atoms[d.below(len(atoms))], 0)
	case impl.TmText:
		return text(words[d.below(len(words))])
	case impl.TmHash:
		return hash(place())
	default:
		return bare(kind, place(), place())
	}
}

// turned is t with one thing about it changed, mostly to what may not be.
func turned(d *dice, t impl.Term) impl.Term {
	numbers := []int{-1, 0, 1, 2, 5, 7, 12, 999, 1000, math.MinInt, math.MaxInt}
	n := numbers[d.below(len(numbers))]
	switch d.below(6) {
	case 0:
		t.Kind = n
	case 1:
		t.A = n
	case 2:
		t.B = n
	case 3:
		t.A, t.B = t.B, t.A
	case 4:
		t.Text = append([]byte{'q'}, t.Text...)
	default:
		t.Kind = d.below(7)
	}
	return t
}

// someLedger is LedgerOk by the model; one in two has something broken in it then.
func someLedger(d *dice) impl.Ledger {
	var l impl.Ledger
	for tries := d.below(30); tries > 0; tries-- {
		if t := someTerm(d, len(l.L)); modelFits(l.L, t) && modelFind(l.L, t) < 0 {
			l.L = append(l.L, t)
		}
	}
	if n := len(l.L); n > 0 && d.below(4) > 0 {
		i, j := d.below(n), d.below(n)
		switch d.below(5) {
		case 0, 1:
			l.L[i] = turned(d, l.L[i])
		case 2:
			l.L[i], l.L[j] = l.L[j], l.L[i]
		case 3:
			l.L = append(l.L, l.L[i])
		default:
			l.L = append(l.L[:i], l.L[i+1:]...)
		}
	}
	return l
}

func probes(d *dice, l impl.Ledger) []impl.Term {
	out := append([]impl.Term{nonce(0), key(1), text("a")}, l.L...)
	for _, t := range l.L {
		out = append(out, turned(d, t))
	}
	for range 10 {
		out = append(out, someTerm(d, len(l.L)))
	}
	return out
}

// TestTermsSweep holds every function against the model, at many ledgers, each of
// which stands in a longer list, whose rest plays no part.
func TestTermsSweep(t *testing.T) {
	d := &dice{at: 1}
	good, bad := 0, 0
	for range 600 {
		l := someLedger(d)
		l.L = append(l.L, nonce(500), key(500), hash(0))[:len(l.L)]
		m := modelOf(l)
		if m.ok {
			good++
		} else {
			bad++
		}
		check(t, shown(impl.LedgerOk(l)), shown(m.ok), "LedgerOk", l)
		check(t, shown(impl.KeysOf(l)), shown(m.keys()), "KeysOf", l)
		sweepTerms(t, m, append(probes(d, l), nonce(500), key(500)))
		sweepNumbers(t, m)
		sweepMarks(t, m)
	}
	if good < 150 || bad < 150 {
		t.Fatal("the sweep is one-sided", good, bad)
	}
}

func sweepTerms(t *testing.T, m model, terms []impl.Term) {
	for _, x := range terms {
		check(t, shown(impl.TermOk(m.l, x)), shown(m.termOk(x)), "TermOk", m.l, x)
		check(t, shown(impl.Lookup(m.l, x)), shown(m.lookup(x)), "Lookup", m.l, x)
		got, n := impl.Intern(m.l, x)
		want, k := m.intern(x)
		check(t, shown(got, n), shown(want, k), "Intern", m.l, x)
	}
}

func sweepNumbers(t *testing.T, m model) {
	for id := -2; id <= len(m.l.L)+2; id++ {
		x, ok := impl.At(m.l, id)
		y, want := m.at(id)
		check(t, shown(x, ok), shown(y, want), "At", m.l, id)
		check(t, shown(impl.Subterms(m.l, id)), shown(m.subterms(id)), "Subterms", m.l, id)
		check(t, shown(impl.Depth(m.l, id)), shown(m.depth(id)), "Depth", m.l, id)
		check(t, string(impl.TermText(m.l, id)), string(m.text(id)), "TermText", m.l, id)
		check(t, shown(impl.UsesOf(m.l, id)), shown(m.uses(id)), "UsesOf", m.l, id)
		check(t, shown(impl.CountKind(m.l, id)), shown(m.count(id)), "CountKind", m.l, id)
	}
}

func sweepMarks(t *testing.T, m model) {
	for a := -1; a <= len(m.l.L); a++ {
		for b := -1; b <= len(m.l.L); b++ {
			x, ok := impl.Open(m.l, a, b)
			y, want := m.open(a, b)
			check(t, shown(x, ok), shown(y, want), "Open", m.l, a, b)
			if len(m.l.L) > 10 {
				continue
			}
			for c := -1; c <= len(m.l.L); c++ {
				check(t, shown(impl.Verify(m.l, a, b, c)), shown(m.verify(a, b, c)), "Verify", m.l, a, b, c)
			}
		}
	}
}

// TestPromise1 puts terms in one by one, and says what the promise says of each
// ledger that comes of it.
func TestPromise1(t *testing.T) {
	d := &dice{at: 7}
	for range 60 {
		var l impl.Ledger
		for range 40 {
			x := someTerm(d, len(l.L))
			m, n := impl.Intern(l, x)
			if n < 0 {
				check(t, shown(m, impl.Lookup(l, x)), shown(impl.Ledger{}, -1), "what is not put in")
				continue
			}
			y, ok := impl.At(m, n)
			check(t, shown(y, ok, impl.Lookup(m, x)), shown(x, true, n), "it is there by its number")
			check(t, shown(m.L[:len(l.L)]), shown(l.L), "all else stays")
			if n < len(l.L) && len(m.L) != len(l.L) || n == len(l.L) && len(m.L) != n+1 || n > len(l.L) {
				t.Fatal("one more only if it was not there", n, len(l.L), len(m.L))
			}
			l = m
		}
		promise1Holds(t, l)
	}
}

func promise1Holds(t *testing.T, l impl.Ledger) {
	opened, marked, kinds := 0, 0, 0
	for id, x := range l.L {
		for k := range l.L {
			b, ok := impl.Open(l, k, id)
			if ok {
				opened++
				check(t, shown(x), shown(seal(k, b)), "opened with its key")
			}
			for msg := range l.L {
				if impl.Verify(l, k, id, msg) {
					marked++
					check(t, shown(x), shown(sign(k, msg)), "of one key and one thing")
				}
			}
		}
		for _, p := range modelMadeOf(x) {
			if p >= id || !slices.Contains(impl.UsesOf(l, p), id) {
				t.Fatal("what a term is made of is ahead of it, and is used by it", id, p)
			}
		}
	}
	for kind := impl.TmNonce; kind <= impl.TmSign; kind++ {
		kinds += impl.CountKind(l, kind)
	}
	check(t, shown(kinds), shown(len(l.L)), "terms of all kinds are all")
	check(t, shown(opened, marked, len(impl.KeysOf(l))), shown(impl.CountKind(l, impl.TmSeal), impl.CountKind(l, impl.TmSign), impl.CountKind(l, impl.TmKey)), "every seal, every mark, every key")
}
