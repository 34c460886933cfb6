package tests

import (
	"slices"
	"testing"

	"loop.example/g00642/impl"
)

// someSecrets is LedgerOk, with terms of every kind, and many a seal.
func someSecrets(d *dice) impl.Ledger {
	l := ledger(key(9), nonce(9), text("x"))
	for tries := d.below(26); tries > 0; tries-- {
		keys := modelOf(l).keys()
		k, a, b := keys[d.below(len(keys))], d.below(len(l.L)), d.below(len(l.L))
		some := []impl.Term{
			key(d.below(5)), nonce(d.below(5)), text([]string{"", "a", "b"}[d.below(3)]),
			pair(a, b), hash(a), sign(k, a), seal(k, a), seal(k, b), seal(k, keys[d.below(len(keys))]),
		}
		if x := some[d.below(len(some))]; modelFind(l.L, x) < 0 {
			l.L = append(l.L, x)
		}
	}
	return l
}

// someHave has numbers in any order, some twice, and some of no term.
func someHave(d *dice, terms int) []int {
	var have []int
	for count := d.below(8); count > 0; count-- {
		have = append(have, d.below(terms+2)-1)
	}
	if d.below(8) == 0 {
		have = append(have, farNumbers[d.below(len(farNumbers))])
	}
	return have
}

// TestMadeSweep holds every function against the model, at ledgers full of seals
// and at ones of which many are not LedgerOk.
func TestMadeSweep(t *testing.T) {
	d := &dice{at: 2}
	good, bad, opened := 0, 0, 0
	for round := range 1500 {
		l := someSecrets(d)
		if round%3 == 0 {
			l = someLedger(d)
		}
		m, have := modelOf(l), someHave(d, len(l.L))
		for id := -2; id <= len(l.L)+1; id++ {
			checkMade(t, m, have, id)
		}
		if !m.ok {
			bad++
			continue
		}
		good++
		for _, n := range impl.Opened(l, have) {
			if x := l.L[n]; x.Kind == impl.TmSeal && !slices.Contains(have, x.B) && impl.Can(l, have, x.A) {
				opened++
			}
		}
	}
	if good < 1000 || bad < 100 || opened < 100 {
		t.Fatal("the sweep is one-sided", good, bad, opened)
	}
}

// TestMadeEveryHave goes through all that one may have of ten terms.
func TestMadeEveryHave(t *testing.T) {
	l := ledger(key(0), key(1), nonce(0), text(""), seal(1, 2), seal(0, 1), pair(4, 3), sign(1, 5), hash(2), seal(0, 6))
	for bits := range 1 << len(l.L) {
		var have []int
		for n := range l.L {
			if bits>>n&1 == 1 {
				have = append(have, n)
			}
		}
		for id := -1; id <= len(l.L); id++ {
			checkMade(t, modelOf(l), have, id)
		}
	}
}

// TestPromise2 says what the promise says of many ledgers, and of many that one
// may have of each.
func TestPromise2(t *testing.T) {
	d := &dice{at: 3}
	secrets, gained := 0, 0
	for range 400 {
		l := someSecrets(d)
		for range 5 {
			have, id := someHave(d, len(l.L)), d.below(len(l.L))
			gained += moreMakesNoLess(t, l, have, id)
			secrets += lacksNonceOrKey(t, l, have) + untoldIsSecret(t, l, have)
		}
	}
	if secrets < 1000 || gained < 1000 {
		t.Fatal("the promise is hardly asked for", secrets, gained)
	}
}

func contains(t *testing.T, what string, all, some []int) {
	t.Helper()
	for _, n := range some {
		if !slices.Contains(all, n) {
			t.Fatal(what, all, some)
		}
	}
}

// moreMakesNoLess tells how many one gains.
func moreMakesNoLess(t *testing.T, l impl.Ledger, have []int, id int) int {
	more := append(slices.Clone(have), id)
	gains, before, behind := impl.Gains(l, have, id), impl.All(l, have), impl.All(l, more)
	contains(t, "with more one makes no less", behind, before)
	contains(t, "with more one has no less", impl.Opened(l, more), impl.Opened(l, have))
	contains(t, "one can make what one has", before, impl.Opened(l, have))
	contains(t, "what leaks can be made", before, impl.Leaks(l, have))
	contains(t, "one can make what one gains", behind, gains)
	for _, n := range gains {
		if slices.Contains(before, n) || impl.Can(l, have, n) || !impl.Can(l, more, n) {
			t.Fatal("what one gains one could not make", l, have, id, n)
		}
	}
	check(t, shown(len(before)+len(gains)), shown(len(behind)), "all that is new is gained")
	return len(gains)
}

// lacksNonceOrKey tells how many can't be made.
func lacksNonceOrKey(t *testing.T, l impl.Ledger, have []int) int {
	secrets := 0
	for n := range l.L {
		missing := impl.Missing(l, have, n)
		if impl.Can(l, have, n) == impl.Secret(l, have, n) {
			t.Fatal("a term can be made, or is a secret", l, have, n)
		}
		if impl.Secret(l, have, n) {
			secrets++
			if len(missing) == 0 {
				t.Fatal("what can't be made lacks a nonce or a key", l, have, n)
			}
		}
		contains(t, "what is missing stands in it", impl.Subterms(l, n), missing)
		for _, x := range missing {
			if kind := l.L[x].Kind; kind != impl.TmNonce && kind != impl.TmKey || impl.Can(l, have, x) {
				t.Fatal("what is missing is a nonce or a key that can't be made", l, have, n, x)
			}
		}
	}
	return secrets
}

// untoldIsSecret tells how many nonces stand in nothing of what one has.
func untoldIsSecret(t *testing.T, l impl.Ledger, have []int) int {
	var told []int
	for _, n := range have {
		told = append(told, impl.Subterms(l, n)...)
	}
	untold := 0
	for n, x := range l.L {
		if x.Kind == impl.TmNonce && !slices.Contains(told, n) {
			untold++
			if !impl.Secret(l, have, n) || slices.Contains(impl.Leaks(l, have), n) {
				t.Fatal("a nonce that nobody was told is a secret", l, have, n)
			}
		}
	}
	return untold
}
