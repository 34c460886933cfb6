package tests

import (
	"bytes"
	"math"
	"testing"

	"loop.example/g00642/impl"
)

func nonce(a int) impl.Term      { return impl.Term{Kind: impl.TmNonce, A: a} }
func key(a int) impl.Term        { return impl.Term{Kind: impl.TmKey, A: a} }
func text(s string) impl.Term    { return impl.Term{Kind: impl.TmText, Text: []byte(s)} }
func textOf(n int) impl.Term     { return impl.Term{Kind: impl.TmText, Text: bytes.Repeat([]byte{'x'}, n)} }
func pair(a, b int) impl.Term    { return impl.Term{Kind: impl.TmPair, A: a, B: b} }
func hash(a int) impl.Term       { return impl.Term{Kind: impl.TmHash, A: a} }
func seal(k, b int) impl.Term    { return impl.Term{Kind: impl.TmSeal, A: k, B: b} }
func sign(k, b int) impl.Term    { return impl.Term{Kind: impl.TmSign, A: k, B: b} }
func bare(k, a, b int) impl.Term { return impl.Term{Kind: k, A: a, B: b} }

func withText(t impl.Term) impl.Term {
	t.Text = []byte{0}
	return t
}

func ledger(terms ...impl.Term) impl.Ledger { return impl.Ledger{L: terms} }

// nonces is a ledger of n nonces, each with its number as A.
func nonces(n int) impl.Ledger {
	var l impl.Ledger
	for i := range n {
		l.L = append(l.L, nonce(i))
	}
	return l
}

// sample has every kind, and every number from 0 to 13.
func sample() impl.Ledger {
	return ledger(
		key(1), nonce(7), seal(0, 1), sign(0, 2), // 0 .. 3
		key(0), text(""), text("ab\x00"), pair(5, 5), // 4 .. 7
		hash(7), nonce(1), pair(1, 4), seal(4, 8), // 8 .. 11
		sign(4, 0), seal(0, 0), // 12, 13
	)
}

func TestTermsSample(t *testing.T) {
	l := sample()
	rows := []struct {
		text string
		subs []int
		deep int
		uses []int
	}{
		{"key 1", []int{0}, 1, []int{2, 3, 12, 13}},
		{"nonce 7", []int{1}, 1, []int{2, 10}},
		{"seal 0 1", []int{0, 1, 2}, 2, []int{3}},
		{"sign 0 2", []int{0, 1, 2, 3}, 3, nil},
		{"key 0", []int{4}, 1, []int{10, 11, 12}},
		{"text 0", []int{5}, 1, []int{7}},
		{"text 3", []int{6}, 1, nil},
		{"pair 5 5", []int{5, 7}, 2, []int{8}},
		{"hash 7", []int{5, 7, 8}, 3, []int{11}},
		{"nonce 1", []int{9}, 1, nil},
		{"pair 1 4", []int{1, 4, 10}, 2, nil},
		{"seal 4 8", []int{4, 5, 7, 8, 11}, 4, nil},
		{"sign 4 0", []int{0, 4, 12}, 2, nil},
		{"seal 0 0", []int{0, 13}, 2, nil},
	}
	if len(l.L) != len(rows) || !impl.LedgerOk(l) {
		t.Fatal("the sample is not as the rows say")
	}
	for id, r := range rows {
		check(t, string(impl.TermText(l, id)), r.text, "TermText")
		check(t, shown(impl.Subterms(l, id)), shown(r.subs), "Subterms of "+r.text)
		check(t, shown(impl.Depth(l, id)), shown(r.deep), "Depth of "+r.text)
		check(t, shown(impl.UsesOf(l, id)), shown(r.uses), "UsesOf "+r.text)
		x, ok := impl.At(l, id)
		check(t, shown(x, ok), shown(l.L[id], true), "At of "+r.text)
		check(t, shown(impl.Lookup(l, l.L[id])), shown(id), "Lookup of "+r.text)
		m, n := impl.Intern(l, l.L[id])
		check(t, shown(m, n), shown(l, id), "Intern of "+r.text)
	}
	check(t, shown(impl.KeysOf(l)), shown([]int{0, 4}), "KeysOf")
	for kind, n := range []int{2, 2, 2, 2, 1, 3, 2} {
		check(t, shown(impl.CountKind(l, kind)), shown(n), "CountKind")
	}
	for _, kind := range append([]int{-1, 7}, farNumbers...) {
		check(t, shown(impl.CountKind(l, kind)), shown(0), "CountKind of none")
	}
}

func TestTermsSampleOpened(t *testing.T) {
	l := sample()
	seals := map[[2]int]int{{0, 2}: 1, {4, 11}: 8, {0, 13}: 0}
	signs := map[[3]int]bool{{0, 3, 2}: true, {4, 12, 0}: true}
	for a := -2; a < 16; a++ {
		for b := -2; b < 16; b++ {
			want, sealed := seals[[2]int{a, b}]
			if !sealed {
				want = -1
			}
			x, ok := impl.Open(l, a, b)
			check(t, shown(x, ok), shown(want, sealed), "Open", a, b)
			for c := -2; c < 16; c++ {
				check(t, shown(impl.Verify(l, a, b, c)), shown(signs[[3]int{a, b, c}]), "Verify", a, b, c)
			}
		}
	}
}

// TestTermsAlone goes through what TermOk says of each kind, limit by limit. The
// ledger has a key at 0 and at 3, none at 1 and 2, and ends behind 3.
func TestTermsAlone(t *testing.T) {
	l := ledger(key(5), nonce(5), text("a"), key(6))
	good := []impl.Term{
		nonce(0), nonce(999), nonce(5), key(0), key(999), key(5),
		{Kind: impl.TmNonce, Text: []byte{}},
		text(""), text("a"), textOf(299), textOf(300), text("\x00\xff"),
		pair(0, 0), pair(3, 3), pair(0, 3), pair(2, 1),
		hash(0), hash(3),
		seal(0, 0), seal(0, 3), seal(3, 2), seal(3, 3),
		sign(0, 0), sign(0, 3), sign(3, 2), sign(3, 3),
	}
	bad := []impl.Term{
		nonce(-1), nonce(1000), key(-1), key(1000), textOf(301), textOf(5000),
		pair(-1, 0), pair(0, -1), pair(4, 0), pair(0, 4), hash(-1), hash(4),
		seal(0, -1), seal(0, 4), seal(-1, 0), seal(4, 0), seal(1, 0), seal(2, 0),
		sign(0, -1), sign(0, 4), sign(-1, 0), sign(4, 0), sign(1, 0), sign(2, 0),
		bare(-1, 0, 0), bare(7, 0, 0), bare(7, 0, 1), bare(math.MinInt, 0, 0), bare(math.MaxInt, 0, 0),
		bare(impl.TmNonce, 5, 1), bare(impl.TmNonce, 5, -1), bare(impl.TmKey, 5, 1), bare(impl.TmKey, 5, -1),
		bare(impl.TmText, 1, 0), bare(impl.TmText, 0, 1), bare(impl.TmText, -1, 0), bare(impl.TmText, 0, -1),
		bare(impl.TmHash, 0, 1), bare(impl.TmHash, 0, -1),
		withText(nonce(5)), withText(key(5)), withText(pair(0, 0)), withText(hash(0)), withText(seal(0, 0)), withText(sign(0, 0)),
	}
	for _, far := range farNumbers {
		bad = append(bad, nonce(far), key(far), pair(far, 0), pair(0, far), hash(far), seal(far, 0), seal(0, far), sign(far, 0), sign(0, far))
		bad = append(bad, bare(impl.TmText, far, 0), bare(impl.TmText, 0, far), bare(impl.TmNonce, 0, far), bare(impl.TmHash, 0, far))
	}
	for _, x := range good {
		m := modelOf(l)
		want, n := m.intern(x)
		got, id := impl.Intern(l, x)
		check(t, shown(impl.TermOk(l, x)), shown(true), "TermOk", x)
		check(t, shown(got, id), shown(want, n), "Intern", x)
		check(t, shown(impl.LedgerOk(got)), shown(true), "LedgerOk behind Intern", x)
		check(t, shown(impl.Lookup(got, x)), shown(n), "Lookup behind Intern", x)
	}
	for _, x := range bad {
		got, id := impl.Intern(l, x)
		check(t, shown(impl.TermOk(l, x)), shown(false), "TermOk", x)
		check(t, shown(got, id), shown(impl.Ledger{}, -1), "Intern", x)
		check(t, shown(impl.Lookup(l, x)), shown(-1), "Lookup", x)
		refuses(t, shown("behind a ledger", x), ledger(append(l.L[:4:4], x)...))
		refuses(t, shown("in front", x), ledger(append([]impl.Term{x}, nonce(1), nonce(2), nonce(3), nonce(4))...))
	}
}

// refuses fails if a function takes l, which is not LedgerOk, or tells of it
// anything but the chapter's fixed answer.
func refuses(t *testing.T, what string, l impl.Ledger) {
	t.Helper()
	check(t, shown(impl.LedgerOk(l)), shown(false), what+": LedgerOk")
	check(t, shown(impl.KeysOf(l)), shown([]int(nil)), what+": KeysOf")
	refusesToMake(t, what, l)
	refusesToSign(t, what, l)
	refusesByLedger(t, what, l)
	for _, x := range append([]impl.Term{nonce(0), nonce(998), key(998), text(""), hash(0)}, l.L[:min(3, len(l.L))]...) {
		check(t, shown(impl.TermOk(l, x)), shown(false), what+": TermOk")
		check(t, shown(impl.Lookup(l, x)), shown(-1), what+": Lookup")
		m, n := impl.Intern(l, x)
		check(t, shown(m, n), shown(impl.Ledger{}, -1), what+": Intern")
	}
	for kind := -1; kind < 8; kind++ {
		check(t, shown(impl.CountKind(l, kind)), shown(-1), what+": CountKind")
	}
	for id := -1; id <= min(len(l.L), 6); id++ {
		x, ok := impl.At(l, id)
		check(t, shown(x, ok), shown(impl.Term{}, false), what+": At")
		check(t, shown(impl.Subterms(l, id)), shown([]int(nil)), what+": Subterms")
		check(t, shown(impl.Depth(l, id)), shown(-1), what+": Depth")
		check(t, string(impl.TermText(l, id)), "", what+": TermText")
		check(t, shown(impl.UsesOf(l, id)), shown([]int(nil)), what+": UsesOf")
		for k := range min(len(l.L), 6) {
			b, ok := impl.Open(l, k, id)
			check(t, shown(b, ok), shown(-1, false), what+": Open")
			for msg := range min(len(l.L), 6) {
				check(t, shown(impl.Verify(l, k, id, msg)), shown(false), what+": Verify")
			}
		}
	}
}

func TestTermsLedgers(t *testing.T) {
	good := map[string]impl.Ledger{
		"nothing":                  {},
		"an empty list":            {L: []impl.Term{}},
		"one":                      ledger(text("")),
		"the sample":               sample(),
		"pairs turned about":       ledger(nonce(0), nonce(1), pair(0, 1), pair(1, 0)),
		"a nonce and a key":        ledger(nonce(3), key(3)),
		"a seal and a mark":        ledger(key(3), seal(0, 0), sign(0, 0), pair(0, 0), hash(0)),
		"texts with like starts":   ledger(text(""), text("a"), text("aa"), text("\x00"), text("a\x00")),
		"marks of two keys":        ledger(key(0), key(1), sign(0, 0), sign(1, 0), sign(0, 1), sign(1, 1)),
		"made of the one just put": ledger(key(0), hash(0), hash(1), pair(2, 2), seal(0, 3), sign(0, 4)),
		"the limits":               ledger(nonce(0), nonce(999), key(0), key(999), textOf(300), textOf(299)),
	}
	for what, l := range good {
		check(t, shown(impl.LedgerOk(l)), shown(true), what)
	}
	bad := map[string]impl.Ledger{
		"made of itself":           ledger(key(0), hash(1)),
		"made of one behind":       ledger(key(0), pair(0, 2), nonce(0)),
		"a seal of one behind":     ledger(key(0), seal(0, 2), nonce(0)),
		"its key is behind":        ledger(nonce(0), seal(2, 0), key(0)),
		"its mark's key is behind": ledger(nonce(0), sign(2, 0), key(0)),
		"sealed by itself":         ledger(key(0), seal(1, 0)),
		"sealed by a nonce":        ledger(nonce(0), key(0), seal(0, 1)),
		"sealed by a text":         ledger(text("k"), key(0), seal(0, 1)),
		"sealed by a pair":         ledger(key(0), pair(0, 0), seal(1, 0)),
		"sealed by a hash":         ledger(key(0), hash(0), seal(1, 0)),
		"sealed by a seal":         ledger(key(0), seal(0, 0), seal(1, 0)),
		"signed by a nonce":        ledger(nonce(0), key(0), sign(0, 1)),
		"signed by a mark":         ledger(key(0), sign(0, 0), sign(1, 0)),
		"two alike nonces":         ledger(nonce(4), nonce(4)),
		"two alike keys":           ledger(key(4), nonce(4), key(4)),
		"two alike texts":          ledger(text("ab"), text("a"), text("ab")),
		"two empty texts":          ledger(text(""), impl.Term{Kind: impl.TmText}),
		"two alike pairs":          ledger(nonce(0), nonce(1), pair(0, 1), pair(1, 0), pair(0, 1)),
		"two alike hashes":         ledger(nonce(0), hash(0), hash(0)),
		"two alike seals":          ledger(key(0), seal(0, 0), nonce(1), seal(0, 0)),
		"two alike marks":          ledger(key(0), sign(0, 0), nonce(1), sign(0, 0)),
		"the last is wrong":        ledger(append(sample().L, nonce(1000))...),
		"the first is wrong":       ledger(append([]impl.Term{bare(7, 0, 0)}, sample().L...)...),
	}
	for what, l := range bad {
		refuses(t, what, l)
	}
}

func TestTermsFullLedger(t *testing.T) {
	full := nonces(impl.MaxTerms)
	check(t, shown(impl.MaxTerms, impl.LedgerOk(full)), shown(400, true), "LedgerOk")
	check(t, shown(impl.TermOk(full, key(1))), shown(true), "TermOk of one more")
	check(t, shown(impl.Lookup(full, key(1))), shown(-1), "Lookup of one more")
	for _, more := range []impl.Term{key(1), nonce(400), text(""), hash(399), pair(0, 399)} {
		l, n := impl.Intern(full, more)
		check(t, shown(l, n), shown(impl.Ledger{}, -1), "Intern of one more")
	}
	for _, id := range []int{0, 1, 200, 398, 399} {
		l, n := impl.Intern(full, nonce(id))
		check(t, shown(l, n), shown(full, id), "Intern of one that is there")
		check(t, shown(impl.Lookup(full, nonce(id))), shown(id), "Lookup of one that is there")
		x, ok := impl.At(full, id)
		check(t, shown(x, ok), shown(nonce(id), true), "At")
	}
	x, ok := impl.At(full, 400)
	check(t, shown(x, ok), shown(impl.Term{}, false), "At behind all")
	check(t, shown(impl.CountKind(full, impl.TmNonce)), shown(400), "CountKind")

	last, n := impl.Intern(nonces(impl.MaxTerms-1), key(9))
	check(t, shown(last, n), shown(ledger(append(nonces(399).L, key(9))...), 399), "Intern of the last one")
	check(t, shown(impl.LedgerOk(last)), shown(true), "LedgerOk behind it")
	check(t, shown(impl.KeysOf(last)), shown([]int{399}), "KeysOf")

	refuses(t, "one term too many", nonces(impl.MaxTerms+1))
	refuses(t, "one key too many", ledger(append(nonces(399).L, key(9), key(8))...))
}

func TestTermsLongTexts(t *testing.T) {
	check(t, shown(impl.MaxText), shown(300), "MaxText")
	l, n := impl.Intern(ledger(nonce(0)), textOf(300))
	check(t, shown(l, n), shown(ledger(nonce(0), textOf(300)), 1), "Intern of 300 bytes")
	check(t, string(impl.TermText(l, 1)), "text 300", "TermText")
	check(t, shown(impl.Lookup(l, textOf(299))), shown(-1), "Lookup of fewer")
	check(t, shown(impl.Lookup(l, textOf(301))), shown(-1), "Lookup of more")
	other := textOf(300)
	other.Text[299] = 'y'
	l, n = impl.Intern(l, other)
	check(t, shown(l, n), shown(ledger(nonce(0), textOf(300), other), 2), "Intern of one with another end")
	l, n = impl.Intern(l, textOf(301))
	check(t, shown(l, n), shown(impl.Ledger{}, -1), "Intern of 301 bytes")
}

// TestTermsNested: what stands in one another 400 times is gone through once,
// also where every term stands twice in the next.
func TestTermsNested(t *testing.T) {
	chain, doubles := ledger(key(1)), ledger(key(1))
	var all []int
	for n := range impl.MaxTerms - 1 {
		chain.L = append(chain.L, hash(n))
		doubles.L = append(doubles.L, pair(n, n))
		all = append(all, n)
	}
	all = append(all, 399)
	for _, l := range []impl.Ledger{chain, doubles} {
		check(t, shown(impl.Depth(l, 399), impl.Depth(l, 398), impl.Depth(l, 0)), shown(400, 399, 1), "Depth")
		check(t, shown(impl.Subterms(l, 399)), shown(all), "Subterms")
		check(t, shown(impl.Subterms(l, 398)), shown(all[:399]), "Subterms of the one ahead")
		check(t, shown(impl.UsesOf(l, 398), impl.UsesOf(l, 399)), shown([]int{399}, []int(nil)), "UsesOf")
	}
	star := ledger(key(1))
	for n := range impl.MaxTerms - 1 {
		star.L = append(star.L, seal(0, n))
	}
	check(t, shown(impl.UsesOf(star, 0)), shown(all[1:]), "UsesOf the key")
	check(t, shown(impl.Depth(star, 399)), shown(400), "Depth of seals")
}

func TestTermsNumbersOutside(t *testing.T) {
	for _, l := range []impl.Ledger{{}, sample()} {
		for _, id := range append([]int{-1, len(l.L), len(l.L) + 1}, farNumbers...) {
			x, ok := impl.At(l, id)
			check(t, shown(x, ok), shown(impl.Term{}, false), "At")
			check(t, shown(impl.Subterms(l, id)), shown([]int(nil)), "Subterms")
			check(t, shown(impl.Depth(l, id)), shown(-1), "Depth")
			check(t, string(impl.TermText(l, id)), "", "TermText")
			check(t, shown(impl.UsesOf(l, id)), shown([]int(nil)), "UsesOf")
			b, ok := impl.Open(l, 0, id)
			check(t, shown(b, ok), shown(-1, false), "Open of none")
			b, ok = impl.Open(l, id, 2)
			check(t, shown(b, ok), shown(-1, false), "Open with none")
			check(t, shown(impl.Verify(l, id, 3, 2), impl.Verify(l, 0, id, 2), impl.Verify(l, 0, 3, id)), shown(false, false, false), "Verify")
		}
	}
	check(t, shown(impl.LedgerOk(impl.Ledger{}), impl.KeysOf(impl.Ledger{}), impl.CountKind(impl.Ledger{}, impl.TmKey)), shown(true, []int(nil), 0), "of nothing")
}
