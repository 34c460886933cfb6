package tests

import (
	"testing"

	"loop.example/g00642/impl"
)

// termCall is one function of the chapter, with its answers as a list.
type termCall struct {
	name string
	ask  func(l impl.Ledger, x impl.Term, a, b, c int) []any
}

func termCalls() []termCall {
	two := func(x, y any) []any { return []any{x, y} }
	return []termCall{
		{"TermOk", func(l impl.Ledger, x impl.Term, a, b, c int) []any { return []any{impl.TermOk(l, x)} }},
		{"LedgerOk", func(l impl.Ledger, x impl.Term, a, b, c int) []any { return []any{impl.LedgerOk(l)} }},
		{"Lookup", func(l impl.Ledger, x impl.Term, a, b, c int) []any { return []any{impl.Lookup(l, x)} }},
		{"Intern", func(l impl.Ledger, x impl.Term, a, b, c int) []any {
			m, n := impl.Intern(l, x)
			return two(m, n)
		}},
		{"At", func(l impl.Ledger, x impl.Term, a, b, c int) []any {
			y, ok := impl.At(l, a)
			return two(y, ok)
		}},
		{"Open", func(l impl.Ledger, x impl.Term, a, b, c int) []any {
			n, ok := impl.Open(l, a, b)
			return two(n, ok)
		}},
		{"Verify", func(l impl.Ledger, x impl.Term, a, b, c int) []any { return []any{impl.Verify(l, a, b, c)} }},
		{"Subterms", func(l impl.Ledger, x impl.Term, a, b, c int) []any { return []any{impl.Subterms(l, a)} }},
		{"Depth", func(l impl.Ledger, x impl.Term, a, b, c int) []any { return []any{impl.Depth(l, a)} }},
		{"TermText", func(l impl.Ledger, x impl.Term, a, b, c int) []any { return []any{impl.TermText(l, a)} }},
		{"CountKind", func(l impl.Ledger, x impl.Term, a, b, c int) []any { return []any{impl.CountKind(l, a)} }},
		{"KeysOf", func(l impl.Ledger, x impl.Term, a, b, c int) []any { return []any{impl.KeysOf(l)} }},
		{"UsesOf", func(l impl.Ledger, x impl.Term, a, b, c int) []any { return []any{impl.UsesOf(l, a)} }},
	}
}

// roomyText has bytes behind its length, which play no part.
func roomyText(b []byte) []byte {
	return append(append([]byte{}, b...), "behind"...)[:len(b)]
}

func roomyTerm(x impl.Term) impl.Term {
	x.Text = roomyText(x.Text)
	return x
}

// roomy has terms behind its length that would be as good as those ahead of it.
func roomy(l impl.Ledger) impl.Ledger {
	var out []impl.Term
	for _, x := range l.L {
		out = append(out, roomyTerm(x))
	}
	for _, x := range []impl.Term{nonce(900), key(900), text("hidden"), hash(0), seal(0, 0)} {
		out = append(out, roomyTerm(x))
	}
	return impl.Ledger{L: out[:len(l.L)]}
}

func memoryLedgers() []impl.Ledger {
	full := nonces(impl.MaxTerms)
	full.L[399] = textOf(300)
	return []impl.Ledger{
		{}, sample(), full, nonces(impl.MaxTerms + 1), ledger(text("ab"), textOf(300), text("")),
		ledger(key(0), hash(1)), ledger(text("a"), text("a")), ledger(nonce(0), seal(0, 0)),
	}
}

func memoryTerms() []impl.Term {
	return []impl.Term{
		key(1), text(""), text("ab\x00"), text("new"), textOf(300), textOf(301),
		pair(0, 0), hash(14), seal(0, 0), seal(1, 1), withText(nonce(3)), bare(9, 0, 0), key(900), text("hidden"),
	}
}

// TestTermsMemory: no function writes into an argument or the room behind it, nor
// hands any of it out, nor gives one memory twice.
func TestTermsMemory(t *testing.T) {
	for _, plain := range memoryLedgers() {
		for _, x := range memoryTerms() {
			l, y := roomy(plain), roomyTerm(x)
			before := shownWithRoom(l, y)
			for _, f := range termCalls() {
				for _, a := range []int{-1, 0, 3, 6, 13, 14} {
					got := f.ask(l, y, a, 2, 1)
					check(t, shown(got...), shown(f.ask(plain, x, a, 2, 1)...), f.name, "reads what lies behind", a)
					checkOwnMemory(t, f.name, got, []any{l, y, plain, x})
					checkOwnMemory(t, f.name+" twice", got, f.ask(l, y, a, 2, 1))
					checkRoomIsZero(t, f.name, got)
				}
			}
			check(t, shownWithRoom(l, y), before, "something is written into an argument")
		}
	}
}

// TestTermsRoomBehind: what stands behind the length of a ledger is not in it.
func TestTermsRoomBehind(t *testing.T) {
	l := roomy(sample())
	for behind := range 5 {
		id := len(l.L) + behind
		x := l.L[:id+1][id]
		check(t, shown(impl.Lookup(l, x)), shown(modelFind(sample().L, x)), "Lookup")
		y, ok := impl.At(l, id)
		check(t, shown(y, ok), shown(impl.Term{}, false), "At")
		check(t, shown(impl.TermOk(l, hash(id)), impl.TermOk(l, seal(id, 0))), shown(false, false), "TermOk")
	}
	check(t, shown(impl.KeysOf(l), impl.UsesOf(l, 0)), shown([]int{0, 4}, []int{2, 3, 12, 13}), "KeysOf, UsesOf")
	check(t, shown(impl.CountKind(l, impl.TmNonce)), shown(2), "CountKind")
	got, n := impl.Intern(l, text("ab"))
	check(t, shown(got, n), shown(ledger(append(sample().L, text("ab"))...), 14), "Intern")
	check(t, shown(l.L[:15][14]), shown(nonce(900)), "the room behind, after Intern")
}

// TestTermsAnswersAreOwn changes an answer, and then an argument.
func TestTermsAnswersAreOwn(t *testing.T) {
	l, x := ledger(key(0), text("ab")), text("cd")
	m, _ := impl.Intern(l, x)
	there, _ := impl.Intern(l, l.L[1])
	y, _ := impl.At(l, 1)
	m.L[0].A, m.L[1].Text[0], m.L[2].Text[0] = 9, 'z', 'z'
	there.L[1].Text[1], y.Text[1] = 'y', 'y'
	check(t, shown(l, x), shown(ledger(key(0), text("ab")), text("cd")), "the arguments")
	l.L[1].Text[0], x.Text[0] = 'q', 'q'
	check(t, shown(m.L[1:], there.L[1:], y), shown([]impl.Term{text("zb"), text("zd")}, []impl.Term{text("ay")}, text("ay")), "the answers")
}

func TestTermsNothingIsKept(t *testing.T) {
	checkNothingIsKept(t, memoryLedgers(), func(l impl.Ledger) string {
		out := ""
		for i, x := range memoryTerms() {
			for _, f := range termCalls() {
				out += shown(f.ask(l, x, i-1, 2, 1)...)
			}
		}
		return out
	})
}
