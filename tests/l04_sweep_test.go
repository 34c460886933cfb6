package tests

import (
	"math"
	"slices"
	"testing"

	"loop.example/g00642/impl"
)

// someSaid is mostly ManifestOk: a first one, one right behind one of those that
// were said, one at the same place, or one that has nothing to do with them.
func someSaid(d *dice, l impl.Ledger, before []impl.Manifest) impl.Manifest {
	x := someTree(d)
	if d.below(8) > 0 {
		x.L = x.L[:min(len(x.L), 8)]
	}
	m := said(d.below(4), 1, 0, x, d.below(400))
	if len(before) == 0 {
		return m
	}
	last := before[d.below(len(before))]
	switch d.below(6) {
	case 0, 1, 2:
		m.Author, m.Seq, m.Prev = last.Author, last.Seq+1, modelOf(l).body(last)+1
		if d.below(4) > 0 {
			m.Tree.Vec = modelVecUp(m.Tree.Vec, last.Tree.Vec)
		}
	case 3:
		m.Author, m.Seq, m.Prev = last.Author, last.Seq, last.Prev
	case 4:
		m.Seq, m.Prev = 2+d.below(99), 1+d.below(400)
	}
	return m
}

// someSayings are signed one behind the other, in a ledger with other terms.
func someSayings(d *dice) (impl.Ledger, []impl.Manifest) {
	var l impl.Ledger
	if d.below(2) == 0 {
		l = someSecrets(d)
	}
	var list []impl.Manifest
	for range 2 + d.below(6) {
		next, m, ok := modelOf(l).signed(someSaid(d, l, list))
		if ok {
			l, list = next, append(list, m)
		}
	}
	return l, list
}

// turnedSaid has one thing changed, to what may be, or may not.
func turnedSaid(d *dice, m impl.Manifest) impl.Manifest {
	numbers := []int{-1, 0, 1, 2, 3, 4, 5, 99, 100, 101, 255, 256, 399, 400, 401, math.MinInt, math.MaxInt}
	n := numbers[d.below(len(numbers))]
	switch d.below(6) {
	case 0:
		m.Author = n
	case 1:
		m.Seq = n
	case 2:
		m.Prev = n
	case 3:
		m.Sig = n
	default:
		m.Tree = turnedTree(d, ownTree(m.Tree))
	}
	return m
}

func ownTree(x impl.Tree) impl.Tree {
	x.Vec, x.L = slices.Clone(x.Vec), slices.Clone(x.L)
	for n := range x.L {
		x.L[n].Name = slices.Clone(x.L[n].Name)
	}
	return x
}

// turnedBytes has something turned, put in, taken out, or nothing.
func turnedBytes(d *dice, b []byte) []byte {
	if len(b) == 0 {
		return b
	}
	b = slices.Clone(b)
	at := d.below(len(b))
	switch d.below(5) {
	case 0:
		b[at] ^= 1 << d.below(8)
	case 1:
		b[at] = byte(d.below(256))
	case 2:
		return slices.Insert(b, at, byte(d.below(256)))
	case 3:
		return slices.Delete(b, at, min(len(b), at+1+d.below(8)))
	}
	return b
}

// TestSaidSweep holds every function against the model, at what is signed, and at
// what has something turned in it.
func TestSaidSweep(t *testing.T) {
	d := &dice{at: 9}
	counts := map[string]int{}
	for round := range 500 {
		l, list := someSayings(d)
		for n := range list {
			if d.below(6) == 0 {
				list[n] = turnedSaid(d, list[n])
			}
		}
		if round%8 == 0 && len(l.L) > 0 {
			n := d.below(len(l.L))
			l.L[n] = turned(d, l.L[n])
		}
		list = append(list, someSaid(d, l, list))
		for _, m := range list {
			for _, n := range list {
				q := sayAsk{l: l, m: m, n: n}
				q.b, _ = modelManifestBytes(m)
				q.b = turnedBytes(d, q.b)
				checkSaid(t, q)
				countSaid(counts, q)
			}
		}
	}
	for _, what := range []string{"signed", "not signed", "follows", "forked", "read", "not read", "bad", "bad ledger"} {
		if counts[what] < 100 {
			t.Fatal("the sweep is one-sided", what, counts)
		}
	}
}

func countSaid(counts map[string]int, q sayAsk) {
	count := func(what string, yes bool) {
		if yes {
			counts[what]++
		}
	}
	w := modelOf(q.l)
	_, read := modelRead(q.b)
	count("signed", w.sigOk(q.m))
	count("not signed", w.ok && modelManifestOk(q.m) && !w.sigOk(q.m))
	count("follows", w.follows(q.m, q.n))
	count("forked", w.forked(q.m, q.n))
	count("read", read)
	count("not read", !read)
	count("bad", !modelManifestOk(q.m))
	count("bad ledger", !w.ok)
}

// TestSaidLongSweep goes on until the ledger has no more room.
func TestSaidLongSweep(t *testing.T) {
	d := &dice{at: 10}
	for range 3 {
		l, list := ledger(nonce(0)), []impl.Manifest(nil)
		refused := 0
		for refused < 5 {
			m := someSaid(d, l, list)
			q := sayAsk{l: l, m: m, n: m}
			if len(list) > 0 {
				q.n = list[len(list)-1-d.below(min(3, len(list)))]
			}
			checkSaid(t, q)
			next, signed, ok := impl.Signed(l, m)
			if ok {
				l, list = next, append(list, signed)
			} else if len(l.L) > 396 {
				refused++
			}
		}
		if len(l.L) < 397 || len(l.L) > 399 {
			t.Fatal("there is room for all that may be signed", len(l.L))
		}
	}
}

func TestPromise5(t *testing.T) {
	d := &dice{at: 11}
	turned, behind := 0, 0
	for range 120 {
		l, list := someSayings(d)
		for _, m := range list {
			comesBack(t, m)
			check(t, shown(impl.SigOk(l, m)), "true;", "what is signed is so", m)
			turned += bytesTurned(t, l, m) + fieldsTurned(t, d, l, m)
			for _, n := range list {
				behind += noForkBehind(t, l, m, n)
			}
		}
	}
	if turned < 20000 || behind < 100 {
		t.Fatal("the promise is hardly asked for", turned, behind)
	}
}

func comesBack(t *testing.T, m impl.Manifest) {
	t.Helper()
	b, ok := impl.ManifestBytes(m)
	body, fine := impl.BodyBytes(m)
	back, is := impl.ManifestRead(b)
	check(t, shown(ok, fine, is, back), shown(true, true, true, m), "manifests come back from their bytes", m)
	check(t, shown(b[2:]), shown(body), "the body is what stands behind the mark", m)
}

// bytesTurned turns each bit alone, and tells how many of what comes of it could
// be read.
func bytesTurned(t *testing.T, l impl.Ledger, m impl.Manifest) int {
	t.Helper()
	b, _ := impl.ManifestBytes(m)
	reads := 0
	for bit := range 8 * len(b) {
		b[bit/8] ^= 1 << (bit % 8)
		if x, ok := impl.ManifestRead(b); ok {
			reads++
			check(t, shown(impl.SigOk(l, x), shown(x) == shown(m)), "false;false;", "not with anything turned in it", m, x)
		}
		b[bit/8] ^= 1 << (bit % 8)
	}
	return reads
}

func fieldsTurned(t *testing.T, d *dice, l impl.Ledger, m impl.Manifest) int {
	t.Helper()
	unlike := 0
	for range 10 {
		if x := turnedSaid(d, m); shown(x) != shown(m) {
			unlike++
			check(t, shown(impl.SigOk(l, x)), "false;", "not with anything turned in it", m, x)
		}
	}
	return unlike
}

// noForkBehind tells whether n is right behind m.
func noForkBehind(t *testing.T, l impl.Ledger, m, n impl.Manifest) int {
	t.Helper()
	if impl.Forked(l, m, n) != impl.Forked(l, n, m) {
		t.Fatal("two fork from one another", m, n)
	}
	if !impl.Follows(l, m, n) {
		return 0
	}
	if impl.Forked(l, m, n) || impl.Follows(l, n, m) || !impl.SigOk(l, m) || !impl.SigOk(l, n) || m.Author != n.Author {
		t.Fatal("what is right behind another one is no fork of it", m, n)
	}
	return 1
}
