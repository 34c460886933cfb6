package tests

import (
	"slices"
	"testing"

	"loop.example/g00642/impl"
)

func roomySaid(m impl.Manifest) impl.Manifest {
	m.Tree = roomyTree(m.Tree)
	return m
}

func roomyAsk(q sayAsk) sayAsk {
	return sayAsk{roomy(q.l), roomySaid(q.m), roomySaid(q.n), roomyText(q.b)}
}

// oneText is a ledger whose texts all stand in one memory.
func oneText() impl.Ledger {
	b := []byte(bodyX + bodyX)
	l := ledger(key(2), text(""), text(""), text(""))
	l.L[1].Text, l.L[2].Text, l.L[3].Text = b[:len(bodyX)], b[1:], b[:len(b)-1]
	return ledger(append(l.L, sign(0, 1))...)
}

func memoryLedgersSaid() []impl.Ledger {
	l, _ := twoSaid()
	return []impl.Ledger{{}, l, oneText(), sample(), nonces(396), nonces(397), ledger(key(2), hash(1)), ledger(append(l.L[:7:7], nonce(1))...)}
}

func memorySaid() []impl.Manifest {
	_, two := twoSaid()
	forked := two[0]
	forked.Tree = impl.TreeNew()
	list := append(two, forked, saidX(4), said(3, 2, 7, oneMemory(), 9), said(0, 1, 0, manyCopies(), 1), said(0, 1, 0, fullTree(), 1))
	return append(list, impl.Manifest{}, said(0, 1, 1, impl.TreeNew(), 0), said(0, 1, 0, treeOf(vec(0, 0, 0, 0), wrote("a~", 1, 0, 1)), 1))
}

// memoryAsks has every ledger with every manifest, and that with itself and the
// two behind it; and its bytes, that are whole, or have one more or one less.
func memoryAsks() []sayAsk {
	var out []sayAsk
	list := memorySaid()
	for _, l := range memoryLedgersSaid() {
		for n, m := range list {
			b := rawBytes(m)
			for turn, b := range [][]byte{b, append(slices.Clone(b), 0), b[:len(b)-1]} {
				out = append(out, sayAsk{l: l, m: m, n: list[(n+turn)%len(list)], b: b})
			}
		}
	}
	return out
}

// TestSaidMemory: no function writes into an argument or the room behind it, nor
// reads that room, nor hands any of it out, nor gives one memory twice.
func TestSaidMemory(t *testing.T) {
	for _, plain := range memoryAsks() {
		checkSaidMemory(t, roomyAsk(plain), plain)
	}
}

func (q sayAsk) arguments() []any { return all(q.l, q.m, q.n, q.b) }

// checkSaidMemory asks for the same with room behind, without it, and twice.
func checkSaidMemory(t *testing.T, q, plain sayAsk) {
	t.Helper()
	arguments := append(q.arguments(), plain.arguments()...)
	before := shownWithRoom(arguments...)
	for _, f := range sayCalls() {
		checkMemory(t, f.name, func() []any { return f.ask(q) }, func() []any { return f.ask(plain) }, arguments)
	}
	check(t, shownWithRoom(arguments...), before, "something is written into an argument")
}

// TestSaidRoomBehind: what is to be signed stands behind the length of the ledger,
// with its mark, and its tree has more behind the lengths of its lists.
func TestSaidRoomBehind(t *testing.T) {
	for _, first := range []impl.Ledger{{}, sample(), ledger(key(2)), ledger(text(bodyX), nonce(5)), nonces(396)} {
		whole, m, _ := modelOf(first).signed(saidX(0))
		l := impl.Ledger{L: append(make([]impl.Term, 0, len(whole.L)+5), whole.L...)[:len(first.L)]}
		m = roomySaid(m)
		for cut := len(first.L); cut < len(whole.L); cut++ {
			l.L = l.L[:cut]
			before := shownWithRoom(l, m)
			check(t, shown(impl.Body(l, m)), shown(modelFind(whole.L[:cut], text(bodyX))), "Body", cut)
			check(t, shown(impl.SigOk(l, m), impl.Follows(l, m, m), impl.Forked(l, m, m)), "false;false;false;", "SigOk", cut)
			if cut <= 396 {
				got, signed, ok := impl.Signed(l, m)
				check(t, shown(got, signed, ok), shown(whole, m, true), "Signed", cut)
				checkOwnMemory(t, "Signed", all(got, signed), all(l, m))
			}
			check(t, shownWithRoom(l, m), before, "something is written into an argument")
		}
		check(t, shown(impl.SigOk(whole, m)), "true;", "with all of it", m)
	}
}

// TestSaidOneForBoth: the same manifest may be both arguments, its own bytes what
// is read, and its ledger's text the memory of its names.
func TestSaidOneForBoth(t *testing.T) {
	for _, l := range memoryLedgersSaid() {
		for _, m := range memorySaid() {
			x, r := roomy(l), roomySaid(m)
			checkSaidMemory(t, sayAsk{x, r, r, nil}, sayAsk{l, m, m, nil})
		}
	}
	l, _, _ := modelOf(impl.Ledger{}).signed(saidX(0))
	m := saidX(2)
	m.Tree.L[0].Name = l.L[1].Text[14:15]
	checkSaidMemory(t, sayAsk{l, m, m, l.L[1].Text}, sayAsk{l, saidX(2), saidX(2), []byte(bodyX)})
	check(t, shown(impl.SigOk(l, m)), "true;", "a name in the ledger's memory")
}

func TestSaidAnswersAreOwn(t *testing.T) {
	fresh := func() sayAsk {
		l, two := twoSaid()
		return sayAsk{l, two[0], two[1], rawBytes(two[0])}
	}
	for _, f := range sayCalls() {
		checkAnswersAreOwn(t, f.name, fresh, f.ask, sayAsk.arguments)
	}
}

func TestSaidNothingIsKept(t *testing.T) {
	checkNothingIsKept(t, memoryAsks(), func(q sayAsk) string {
		out := ""
		for _, f := range sayCalls() {
			out += shown(f.ask(q)...)
		}
		return out
	})
}
