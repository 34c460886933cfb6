package tests

import (
	"bytes"
	"math"
	"slices"
	"strings"
	"testing"

	"loop.example/g00642/impl"
)

func said(author, seq, prev int, x impl.Tree, sig int) impl.Manifest {
	return impl.Manifest{Author: author, Seq: seq, Prev: prev, Tree: x, Sig: sig}
}

// bodyX is what device 2 says first: x with 258, which it wrote.
const bodyX = "\x02\x01\x00\x00" + "\x00\x00\x00\x00\x00\x01\x00\x00" + "\x01" + "\x01x\x01\x02\x02\x00\x01"

func saidX(sig int) impl.Manifest {
	return said(2, 1, 0, treeOf(vec(0, 0, 1, 0), wrote("x", 258, 2, 1)), sig)
}

// twoSaid is what device 1 says, and what it says right behind that.
func twoSaid() (impl.Ledger, []impl.Manifest) {
	first := "\x01\x01\x00\x00" + "\x01\x02\x00\x00\x00\x00\x00\x05" + "\x01" + "\x01x\x00\x07\x00\x00\x02"
	second := "\x01\x02\x00\x03" + "\x01\x02\x00\x01\x00\x00\x00\x05" + "\x00"
	l := ledger(nonce(1), key(1), text(first), sign(1, 2), key(0), text(second), sign(1, 5))
	return l, []impl.Manifest{
		said(1, 1, 0, treeOf(vec(258, 0, 0, 5), wrote("x", 7, 0, 2)), 3),
		said(1, 2, 3, treeOf(vec(258, 1, 0, 5)), 6),
	}
}

// TestSaidTwo: what other tests start from is as they take it to be.
func TestSaidTwo(t *testing.T) {
	l, m := twoSaid()
	check(t, shown(impl.LedgerOk(l), impl.SigOk(l, m[0]), impl.SigOk(l, m[1])), "true;true;true;", "both are signed")
	check(t, shown(impl.Body(l, m[0]), impl.Body(l, m[1])), "2;5;", "Body")
	check(t, shown(impl.Follows(l, m[0], m[1]), impl.Follows(l, m[1], m[0])), "true;false;", "Follows")
	check(t, shown(impl.Forked(l, m[0], m[1]), impl.Forked(l, m[1], m[0])), "false;false;", "Forked")
}

// longNames has so many entries, each with a name of as many bytes as may be.
func longNames(count int) impl.Tree {
	x := treeOf(vec(0, 1000, 0, 0))
	for n := range count {
		name := strings.Repeat("\U0001f600", 5) + string(rune(0x1f600+n))
		x.L = append(x.L, wrote(name, 999, 1, 1000-n))
	}
	return x
}

// longBytes are the bytes of longNames(8).
func longBytes() string {
	out := "\x00\x00\x03\xe8\x00\x00\x00\x00" + "\x08"
	for n := range 8 {
		out += "\x18" + strings.Repeat("\xf0\x9f\x98\x80", 5) + "\xf0\x9f\x98" + string([]byte{byte(0x80 + n)})
		out += "\x03\xe7\x01\x03" + string([]byte{byte(0xe8 - n)})
	}
	return out
}

// saidRow is a manifest, and its mark and body as bytes, written down by hand.
type saidRow struct {
	m         impl.Manifest
	sig, body string
}

func saidRows() []saidRow {
	edges := treeOf(vec(255, 256, 1000, 0), wrote("a", 255, 0, 255), wrote("b", 256, 1, 256), wrote("c", 999, 2, 1000), wrote("d", 0, 2, 1))
	copies := treeOf(vec(1, 2, 0, 1), wrote("\u00e9", 1, 1, 2), wrote("\u00e9", 511, 0, 1), wrote("\u00e9", 512, 3, 1))
	return []saidRow{
		{said(0, 1, 0, impl.TreeNew(), 0), "\x00\x00", "\x00\x01\x00\x00" + "\x00\x00\x00\x00\x00\x00\x00\x00" + "\x00"},
		{saidX(1), "\x00\x01", bodyX},
		{said(2, 2, 255, edges, 255), "\x00\xff", "\x02\x02\x00\xff" + "\x00\xff\x01\x00\x03\xe8\x00\x00" + "\x04" +
			"\x01a\x00\xff\x00\x00\xff" + "\x01b\x01\x00\x01\x01\x00" + "\x01c\x03\xe7\x02\x03\xe8" + "\x01d\x00\x00\x02\x00\x01"},
		{said(1, 99, 256, copies, 256), "\x01\x00", "\x01\x63\x01\x00" + "\x00\x01\x00\x02\x00\x00\x00\x01" + "\x03" +
			"\x02\xc3\xa9\x00\x01\x01\x00\x02" + "\x02\xc3\xa9\x01\xff\x00\x00\x01" + "\x02\xc3\xa9\x02\x00\x03\x00\x01"},
		{said(3, 100, 400, treeOf(vec(1000, 1000, 1000, 1000)), 399), "\x01\x8f", "\x03\x64\x01\x90" + "\x03\xe8\x03\xe8\x03\xe8\x03\xe8" + "\x00"},
		{said(1, 3, 1, longNames(8), 257), "\x01\x01", "\x01\x03\x00\x01" + longBytes()},
		{said(0, 2, 399, treeOf(vec(0, 0, 0, 1), wrote("abcdef", 0, 3, 1)), 2), "\x00\x02", "\x00\x02\x01\x8f" + "\x00\x00\x00\x00\x00\x00\x00\x01" + "\x01" + "\x06abcdef\x00\x00\x03\x00\x01"},
	}
}

func TestSaidBytes(t *testing.T) {
	for _, r := range saidRows() {
		check(t, shown(impl.ManifestOk(r.m)), "true;", "ManifestOk", r.m)
		b, ok := impl.BodyBytes(r.m)
		check(t, shown(b, ok), shown([]byte(r.body), true), "BodyBytes", r.m)
		b, ok = impl.ManifestBytes(r.m)
		check(t, shown(b, ok), shown([]byte(r.sig+r.body), true), "ManifestBytes", r.m)
		m, ok := impl.ManifestRead([]byte(r.sig + r.body))
		check(t, shown(m, ok), shown(r.m, true), "ManifestRead", r.m)
		check(t, shown(rawBytes(r.m)), shown([]byte(r.sig+r.body)), "the model", r.m)
	}
	b, _ := impl.BodyBytes(said(1, 3, 1, longNames(8), 257))
	check(t, shown(len(b)), "253;", "no body has more bytes than this, so none has more than MaxText")
}

func TestSaidThatMayBe(t *testing.T) {
	x := saidX(0).Tree
	eight := treeOf(fullTree().Vec, fullTree().L[:8]...)
	good := []impl.Manifest{
		said(0, 1, 0, x, 0), said(1, 1, 0, x, 0), said(3, 1, 0, x, 0), said(0, 1, 0, x, 399), said(0, 1, 0, x, 398),
		said(0, 2, 1, x, 0), said(0, 100, 1, x, 0), said(0, 2, 400, x, 0), said(0, 100, 400, x, 399), said(0, 50, 200, x, 200),
		said(0, 1, 0, eight, 0), said(0, 1, 0, manyCopies(), 0), said(0, 1, 0, longNames(8), 0),
		said(0, 1, 0, impl.TreeNew(), 0), said(0, 1, 0, impl.Tree{Vec: vec(0, 0, 0, 0), L: []impl.Entry{}}, 0),
	}
	for _, m := range good {
		check(t, shown(impl.ManifestOk(m)), "true;", "ManifestOk", m)
		l, signed, ok := impl.Signed(impl.Ledger{}, m)
		want, wanted, _ := modelOf(impl.Ledger{}).signed(m)
		check(t, shown(l, signed, ok), shown(want, wanted, true), "Signed", m)
	}
	nine := treeOf(fullTree().Vec, fullTree().L[:9]...)
	for _, x := range []impl.Tree{nine, fullTree(), longNames(9), treeOf(manyCopies().Vec, append(manyCopies().L, wrote("d", 0, 3, 1))...)} {
		check(t, shown(impl.TreeOk(x)), "true;", "TreeOk", x)
		refusesManifest(t, "too many entries", said(0, 1, 0, x, 0))
	}
}

func TestSaidThatMayNotBe(t *testing.T) {
	x := saidX(0).Tree
	refusesManifest(t, "the zero value", impl.Manifest{})
	refusesManifest(t, "no tree", said(0, 1, 0, impl.Tree{}, 0))
	seqAndPrev := [][2]int{
		{1, 1}, {1, 2}, {1, 400}, {1, -1}, {1, 401}, {1, 1 << 16}, {1, 1 << 32}, // Prev must be 0
		{2, 0}, {3, 0}, {100, 0}, {2, -1}, {2, 401}, {100, 401}, {2, 1 + 1<<16}, {2, 1 + 1<<32}, // and must not
		{0, 0}, {0, 1}, {-1, 0}, {-1, 1}, {101, 0}, {101, 1}, {102, 1}, {255, 1}, {256, 1}, {257, 0}, {258, 1}, {1 + 1<<32, 0}, {2 + 1<<32, 1},
	}
	for _, far := range farNumbers {
		seqAndPrev = append(seqAndPrev, [][2]int{{far, 0}, {far, 1}, {1, far}, {2, far}, {far, far}}...)
	}
	for _, p := range seqAndPrev {
		refusesManifest(t, "Seq and Prev", said(0, p[0], p[1], x, 0))
	}
	for _, n := range append([]int{-1, 4, 5, 255, 256, 1 << 32}, farNumbers...) {
		refusesManifest(t, "Author", said(n, 1, 0, x, 0))
	}
	for _, n := range append([]int{-1, 400, 401, 1 << 16, 1 << 32}, farNumbers...) {
		refusesManifest(t, "Sig", said(0, 1, 0, x, n))
	}
}

func TestSaidReadCut(t *testing.T) {
	for _, r := range saidRows() {
		whole := []byte(r.sig + r.body)
		for n := range whole {
			refusesBytes(t, "bytes are lacking behind", whole[:n:n])
			refusesBytes(t, "bytes are lacking behind, but stand in the room", whole[:n])
			refusesBytes(t, "one byte is lacking", slices.Delete(slices.Clone(whole), n, n+1))
		}
		for c := range 256 {
			refusesBytes(t, "one byte more", append(slices.Clone(whole), byte(c)))
			refusesBytes(t, "one byte more in front", append([]byte{byte(c)}, whole...))
		}
		refusesBytes(t, "another one behind", slices.Concat(whole, whole))
		refusesBytes(t, "many bytes behind", append(slices.Clone(whole), make([]byte, 1<<16)...))
		refusesBytes(t, "the body alone", []byte(r.body))
	}
	for _, c := range []byte{0, 1, 2, 255} {
		for n := range 300 {
			refusesBytes(t, "one byte again and again", bytes.Repeat([]byte{c}, n))
		}
		refusesBytes(t, "one byte many times", bytes.Repeat([]byte{c}, 1<<20))
	}
	refusesBytes(t, "nothing", nil)
}

// TestSaidReadTurned: each byte alone is turned to every other one.
func TestSaidReadTurned(t *testing.T) {
	reads := 0
	for _, r := range saidRows() {
		whole := []byte(r.sig + r.body)
		for at := range whole {
			for c := range 256 {
				b := slices.Clone(whole)
				b[at] = byte(c)
				got, ok := impl.ManifestRead(b)
				check(t, shown(got, ok), shown(withFlag(modelRead(b))...), "turned", b, at)
				if again, _ := impl.ManifestBytes(got); ok {
					check(t, shown(again), shown(b), "it comes back", b, at)
					reads++
				}
			}
		}
	}
	if reads < 1000 {
		t.Fatal("hardly any turned bytes are read", reads)
	}
}

// TestSaidReadTurnedByHand has what the turned bytes of the third row say.
func TestSaidReadTurnedByHand(t *testing.T) {
	rows := []struct {
		at int
		to byte
		ok bool
	}{
		{0, 1, false}, {0, 2, false}, {1, 0, true}, {1, 254, true}, // Sig
		{2, 0, true}, {2, 3, true}, {2, 4, false}, {2, 255, false}, // Author
		{3, 0, false}, {3, 1, false}, {3, 3, true}, {3, 100, true}, {3, 101, false}, {3, 255, false}, // Seq
		{4, 1, false}, {5, 0, false}, {5, 1, true}, // Prev
		{6, 1, true}, {6, 4, false}, {7, 254, false}, {9, 1, true}, {8, 0, false}, {11, 0xe7, false}, {11, 0xe9, false}, {13, 1, true}, // Vec
		{14, 0, false}, {14, 3, false}, {14, 5, false}, {14, 8, false}, {14, 255, false}, // how many
		{15, 0, false}, {15, 2, false}, {15, 7, false}, {15, 8, false}, {15, 255, false}, {36, 2, false}, {36, 0, false}, // how long
		{16, 'A', true}, {16, 'b', false}, {16, 'c', false}, {16, ' ', false}, {16, '/', false}, {16, '~', false}, {16, 0x80, false}, {37, 'e', true}, {37, 'b', false}, // Name
		{17, 1, true}, {17, 2, true}, {17, 3, false}, {18, 0, true}, {31, 0xe8, false}, // Val
		{19, 1, true}, {19, 2, true}, {19, 3, false}, {19, 4, false}, {19, 255, false}, // By
		{20, 1, false}, {21, 0, false}, {21, 1, true}, {21, 254, true}, {34, 0, true}, {35, 0xe9, false}, // At
	}
	whole := []byte(saidRows()[2].sig + saidRows()[2].body)
	for _, r := range rows {
		b := slices.Clone(whole)
		b[r.at] = r.to
		m, ok := impl.ManifestRead(b)
		check(t, shown(ok, impl.ManifestOk(m)), shown(r.ok, r.ok), "turned by hand", r)
	}
}

func TestSaidSigned(t *testing.T) {
	k, x := key(2), text(bodyX)
	rows := []struct {
		what         string
		before, more []impl.Term
		body, sig    int
	}{
		{"nothing", nil, []impl.Term{k, x, sign(0, 1)}, 1, 2},
		{"the key", []impl.Term{k}, []impl.Term{x, sign(0, 1)}, 1, 2},
		{"the text", []impl.Term{x}, []impl.Term{k, sign(1, 0)}, 0, 2},
		{"the key, the text", []impl.Term{k, x}, []impl.Term{sign(0, 1)}, 1, 2},
		{"the text, the key", []impl.Term{x, k}, []impl.Term{sign(1, 0)}, 0, 2},
		{"all", []impl.Term{k, x, sign(0, 1)}, nil, 1, 2},
		{"all, the text first", []impl.Term{x, k, sign(1, 0)}, nil, 0, 2},
		{"all, and more", []impl.Term{nonce(0), k, nonce(1), x, key(3), sign(1, 3), hash(5)}, nil, 3, 5},
		{"the key, and more", []impl.Term{nonce(0), k, nonce(1)}, []impl.Term{x, sign(1, 3)}, 3, 4},
		{"the text, and more", []impl.Term{nonce(0), x, nonce(1)}, []impl.Term{k, sign(3, 1)}, 1, 4},
		{"a mark of another key", []impl.Term{k, x, key(3), sign(2, 1)}, []impl.Term{sign(0, 1)}, 1, 4},
		{"a mark of another thing", []impl.Term{k, text("x"), sign(0, 1)}, []impl.Term{x, sign(0, 3)}, 3, 4},
		{"a mark of the key", []impl.Term{k, x, sign(0, 0)}, []impl.Term{sign(0, 1)}, 1, 3},
		{"both, but no mark", []impl.Term{k, x, pair(0, 1), seal(0, 1), hash(1)}, []impl.Term{sign(0, 1)}, 1, 5},
		{"a nonce of that A", []impl.Term{nonce(2)}, []impl.Term{k, x, sign(1, 2)}, 2, 3},
		{"other keys", []impl.Term{key(0), key(1), key(3), key(4), key(20)}, []impl.Term{k, x, sign(5, 6)}, 6, 7},
		{"other texts", []impl.Term{text(""), text("\x00\x00" + bodyX), text(bodyX[1:]), text(bodyX[:len(bodyX)-1]), text(bodyX + "\x00")}, []impl.Term{k, x, sign(5, 6)}, 6, 7},
		{"the sample", sample().L, []impl.Term{k, x, sign(14, 15)}, 15, 16},
	}
	for _, r := range rows {
		before, after := ledger(r.before...), ledger(slices.Concat(r.before, r.more)...)
		for _, sig := range []int{0, 2, 5, 399} {
			l, m, ok := impl.Signed(before, saidX(sig))
			check(t, shown(l, m, ok), shown(after, saidX(r.sig), true), r.what)
			check(t, shown(impl.Body(after, saidX(sig)), impl.SigOk(after, saidX(sig))), shown(r.body, sig == r.sig), r.what+": Body, SigOk", sig)
			check(t, shown(impl.Body(before, saidX(sig)), impl.SigOk(before, saidX(sig))), shown(modelFind(r.before, x), sig == r.sig && r.more == nil), r.what+": before", sig)
		}
		l, m, ok := impl.Signed(after, saidX(r.sig))
		check(t, shown(l, m, ok), shown(after, saidX(r.sig), true), r.what+", again")
	}
}

// TestSaidRoom: a ledger with as many terms as may be, and with one more, also
// where the key, the text, and the mark are there already.
func TestSaidRoom(t *testing.T) {
	none := shown(impl.Ledger{}, impl.Manifest{}, false)
	new := []impl.Term{key(2), text(bodyX)}
	for count := 390; count <= 400; count++ {
		for there := range 4 {
			terms := nonces(count - there).L
			if there > 0 {
				terms = append(terms, new[:min(there, 2)]...)
			}
			if there == 3 {
				terms = append(terms, sign(count-3, count-2))
			}
			want, first := none, count-there
			if count <= 396 {
				want = shown(ledger(append(nonces(first).L, new[0], new[1], sign(first, first+1))...), saidX(first+2), true)
			}
			l, m, ok := impl.Signed(ledger(terms...), saidX(7))
			check(t, shown(l, m, ok), want, "Signed", count, there)
			check(t, shown(impl.Body(ledger(terms...), saidX(7))), shown(modelFind(terms, text(bodyX))), "Body", count, there)
			check(t, shown(impl.SigOk(ledger(terms...), saidX(first+2))), shown(there == 3), "SigOk", count, there)
		}
	}
	l, m, ok := impl.Signed(nonces(396), said(1, 3, 1, longNames(8), 0))
	check(t, shown(len(l.L), len(l.L[397].Text), m.Sig, ok), "399;253;398;true;", "the longest body")
}

// TestSaidMarks asks with every Sig of a ledger with marks, and much that is none.
func TestSaidMarks(t *testing.T) {
	mine, other := "\x01"+bodyX[1:], "\x01\x01\x00\x00"+"\x00\x00\x00\x00\x00\x00\x00\x00"+"\x00"
	l := ledger(
		key(1), text(mine), sign(0, 1), // 0 .. 2
		key(2), sign(3, 1), key(11), sign(5, 1), // 3 .. 6: of other keys
		nonce(1), pair(0, 1), seal(0, 1), hash(1), // 7 .. 10: no marks
		text(other), sign(0, 11), sign(0, 2), sign(0, 0), // 11 .. 14: of other things
		text(bodyX), sign(3, 15), sign(0, 15), // 15 .. 17: device 2's, and of another one's key
		pair(7, 1), seal(3, 1), hash(2), // 18 .. 20
	)
	rows := []struct {
		m         impl.Manifest
		body, sig int
	}{
		{said(1, 1, 0, saidX(0).Tree, 0), 1, 2},
		{said(1, 1, 0, impl.TreeNew(), 0), 11, 12},
		{saidX(0), 15, 16},
		{said(0, 1, 0, saidX(0).Tree, 0), -1, -1},
		{said(2, 1, 0, impl.TreeNew(), 0), -1, -1},
		{said(1, 2, 1, saidX(0).Tree, 0), -1, -1},
		{said(1, 1, 0, treeOf(vec(0, 0, 2, 0), saidX(0).Tree.L...), 0), -1, -1},
		{said(1, 1, 0, treeOf(vec(0, 0, 1, 0), wrote("x", 259, 2, 1)), 0), -1, -1},
	}
	for _, r := range rows {
		check(t, shown(impl.Body(l, r.m)), shown(r.body), "Body", r.m)
		for sig := range impl.MaxTerms {
			m := r.m
			m.Sig = sig
			check(t, shown(impl.SigOk(l, m)), shown(sig == r.sig), "SigOk", m)
		}
	}
	for _, x := range []impl.Ledger{{}, ledger(text(mine)), ledger(key(1), text(mine)), ledger(key(1), text("x"), sign(0, 1)), ledger(key(0), text(mine), sign(0, 1)), ledger(nonce(1), text(mine), pair(0, 1))} {
		for sig := range 4 {
			check(t, shown(impl.SigOk(x, said(1, 1, 0, saidX(0).Tree, sig))), "false;", "SigOk where something is lacking", x, sig)
		}
	}
}

// madeSaid signs them all in l, and gives them as they are signed.
func madeSaid(t *testing.T, l impl.Ledger, list ...impl.Manifest) (impl.Ledger, []impl.Manifest) {
	t.Helper()
	var out []impl.Manifest
	for _, m := range list {
		next, signed, ok := modelOf(l).signed(m)
		if !ok {
			t.Fatal("what is to be signed can't be", m)
		}
		l, out = next, append(out, signed)
	}
	return l, out
}

// behind has one manifest, what is said right behind it, and that with one thing
// about it turned. The body of the first one has number 2.
func behind(t *testing.T, turn func(m, next *impl.Manifest)) (impl.Ledger, impl.Manifest, impl.Manifest) {
	t.Helper()
	m := said(1, 5, 9, treeOf(vec(1, 2, 3, 4), wrote("x", 1, 1, 2)), 0)
	next := said(1, 6, 3, treeOf(vec(1, 2, 3, 4), wrote("x", 2, 0, 1), wrote("y", 3, 3, 4)), 0)
	turn(&m, &next)
	l, list := madeSaid(t, ledger(nonce(9)), m, next)
	return l, list[0], list[1]
}

func TestSaidFollows(t *testing.T) {
	good := map[string]func(m, next *impl.Manifest){
		"as it is":             func(m, next *impl.Manifest) {},
		"more is known":        func(m, next *impl.Manifest) { next.Tree = treeOf(vec(2, 3, 4, 5)) },
		"one more is known":    func(m, next *impl.Manifest) { next.Tree = treeOf(vec(1, 2, 3, 5)) },
		"all is known":         func(m, next *impl.Manifest) { next.Tree = treeOf(vec(1000, 1000, 1000, 1000)) },
		"nothing is left":      func(m, next *impl.Manifest) { next.Tree.L = nil },
		"nothing was known":    func(m, next *impl.Manifest) { m.Tree = impl.TreeNew() },
		"behind the first one": func(m, next *impl.Manifest) { m.Seq, m.Prev, next.Seq = 1, 0, 2 },
		"the last one":         func(m, next *impl.Manifest) { m.Seq, next.Seq = 99, 100 },
		"another author":       func(m, next *impl.Manifest) { m.Author, next.Author = 3, 3 },
		"the same tree":        func(m, next *impl.Manifest) { next.Tree = m.Tree },
	}
	for what, turn := range good {
		l, m, next := behind(t, turn)
		check(t, shown(impl.Follows(l, m, next), impl.Follows(l, next, m)), "true;false;", what)
		check(t, shown(impl.Forked(l, m, next), impl.Forked(l, next, m)), "false;false;", what+": no fork")
		check(t, shown(impl.Follows(l, m, m), impl.Follows(l, next, next)), "false;false;", what+": behind itself")
		unsigned, unlike := m, next
		unsigned.Sig, unlike.Sig = next.Sig, m.Sig
		check(t, shown(impl.Follows(l, unsigned, next), impl.Follows(l, m, unlike), impl.Follows(l, unsigned, unlike)), "false;false;false;", what+": Sig")
	}
	bad := map[string]func(m, next *impl.Manifest){
		"another author":   func(m, next *impl.Manifest) { next.Author = 2 },
		"of another one":   func(m, next *impl.Manifest) { m.Author = 0 },
		"Seq is the same":  func(m, next *impl.Manifest) { next.Seq = 5 },
		"Seq is two more":  func(m, next *impl.Manifest) { next.Seq = 7 },
		"Seq is one less":  func(m, next *impl.Manifest) { next.Seq = 4 },
		"Seq is far off":   func(m, next *impl.Manifest) { next.Seq = 100 },
		"the first one":    func(m, next *impl.Manifest) { next.Seq, next.Prev = 1, 0 },
		"Prev is the body": func(m, next *impl.Manifest) { next.Prev = 2 },
		"Prev is 2 more":   func(m, next *impl.Manifest) { next.Prev = 4 },
		"Prev is 1":        func(m, next *impl.Manifest) { next.Prev = 1 },
		"Prev is m's":      func(m, next *impl.Manifest) { next.Prev = 9 },
		"Prev is far off":  func(m, next *impl.Manifest) { next.Prev = 400 },
		"less of device 0": func(m, next *impl.Manifest) { next.Tree = treeOf(vec(0, 2, 3, 4)) },
		"less of device 1": func(m, next *impl.Manifest) { next.Tree = treeOf(vec(1, 1, 3, 4)) },
		"less of device 2": func(m, next *impl.Manifest) { next.Tree = treeOf(vec(1, 2, 2, 4)) },
		"less of device 3": func(m, next *impl.Manifest) { next.Tree = treeOf(vec(1, 2, 3, 3)) },
		"less, and more":   func(m, next *impl.Manifest) { next.Tree = treeOf(vec(1000, 1000, 2, 1000)) },
	}
	for what, turn := range bad {
		l, m, next := behind(t, turn)
		check(t, shown(impl.SigOk(l, m), impl.SigOk(l, next)), "true;true;", what)
		check(t, shown(impl.Follows(l, m, next)), "false;", what)
	}
}

// TestSaidFollowsNumbers: Prev by the place of the body, the first one and the
// last one that there can be.
func TestSaidFollowsNumbers(t *testing.T) {
	for _, at := range []int{0, 1, 254, 255, 256, 395} {
		m, next := saidX(at+2), saidX(at+4)
		next.Seq, next.Prev = 2, at+1
		l := nonces(at)
		l.L = append(l.L, text(bodyX), key(2), sign(at+1, at), bodyTerm(next), sign(at+1, at+3))
		check(t, shown(impl.LedgerOk(l), impl.Body(l, m), impl.Follows(l, m, next)), shown(true, at, true), "Follows", at)
	}
	m, next := saidX(399), saidX(397)
	next.Seq, next.Prev = 2, 399
	l := nonces(395)
	l.L = append(l.L, key(2), bodyTerm(next), sign(395, 396), text(bodyX), sign(395, 398))
	check(t, shown(impl.LedgerOk(l), impl.Body(l, m), impl.Follows(l, m, next)), "true;398;true;", "the last one of a full ledger")
	refusesToSign(t, "one term more", ledger(append(l.L, nonce(900))...))
	check(t, shown(impl.Follows(ledger(append(l.L, nonce(900))...), m, next)), "false;", "one term more")
}

func TestSaidForked(t *testing.T) {
	base := said(2, 3, 5, treeOf(vec(4, 4, 4, 4), wrote("x", 7, 1, 2), wrote("y", 8, 2, 2)), 0)
	rows := []struct {
		what string
		turn func(m *impl.Manifest)
		fork bool
	}{
		{"in Prev", func(m *impl.Manifest) { m.Prev = 6 }, true},
		{"in Prev's high byte", func(m *impl.Manifest) { m.Prev = 261 }, true},
		{"in Vec of device 0", func(m *impl.Manifest) { m.Tree.Vec[0] = 5 }, true},
		{"in Vec of device 3", func(m *impl.Manifest) { m.Tree.Vec[3] = 3 }, true},
		{"in a name", func(m *impl.Manifest) { m.Tree.L[0].Name = []byte("w") }, true},
		{"in a name's length", func(m *impl.Manifest) { m.Tree.L[0].Name = []byte("xx") }, true},
		{"in Val", func(m *impl.Manifest) { m.Tree.L[1].Val = 9 }, true},
		{"in By", func(m *impl.Manifest) { m.Tree.L[1].By = 3 }, true},
		{"in At", func(m *impl.Manifest) { m.Tree.L[1].At = 1 }, true},
		{"in how many", func(m *impl.Manifest) { m.Tree.L = m.Tree.L[:1] }, true},
		{"in having any", func(m *impl.Manifest) { m.Tree.L = nil }, true},
		{"in nothing", func(m *impl.Manifest) {}, false},
		{"in Seq alone", func(m *impl.Manifest) { m.Seq = 4 }, false},
		{"in Seq, and the tree", func(m *impl.Manifest) { m.Seq, m.Tree = 2, impl.TreeNew() }, false},
		{"in Author alone", func(m *impl.Manifest) { m.Author = 1 }, false},
		{"in Author, and the tree", func(m *impl.Manifest) { m.Author, m.Tree = 3, impl.TreeNew() }, false},
		{"in Author, and Prev", func(m *impl.Manifest) { m.Author, m.Prev = 0, 6 }, false},
	}
	for _, r := range rows {
		other := base
		other.Tree.Vec, other.Tree.L = slices.Clone(base.Tree.Vec), slices.Clone(base.Tree.L)
		r.turn(&other)
		l, m := madeSaid(t, sample(), base, other)
		a, b := m[0], m[1]
		check(t, shown(impl.SigOk(l, a), impl.SigOk(l, b)), "true;true;", "signed: unlike "+r.what)
		check(t, shown(impl.Forked(l, a, b), impl.Forked(l, b, a), impl.Forked(l, a, a), impl.Forked(l, b, b)), shown(r.fork, r.fork, false, false), "unlike "+r.what)
		check(t, shown(impl.Follows(l, a, b), impl.Follows(l, b, a)), "false;false;", "unlike "+r.what)
		for _, sig := range []int{0, 3, 12, a.Sig - 1, b.Sig + 1, 399, a.Sig, b.Sig} {
			x, y := a, b
			x.Sig, y.Sig = sig, sig
			check(t, shown(impl.Forked(l, x, b), impl.Forked(l, b, x)), shown(r.fork && sig == a.Sig, r.fork && sig == a.Sig), "a's Sig, unlike "+r.what, sig)
			check(t, shown(impl.Forked(l, a, y), impl.Forked(l, y, a)), shown(r.fork && sig == b.Sig, r.fork && sig == b.Sig), "b's Sig, unlike "+r.what, sig)
			check(t, shown(impl.Forked(l, a, x), impl.Forked(l, x, a)), "false;false;", "Sig alone is unlike", sig)
		}
	}
	first, other := saidX(0), saidX(0)
	other.Tree = impl.TreeNew()
	l, m := madeSaid(t, impl.Ledger{}, first, other)
	check(t, shown(impl.Forked(l, m[0], m[1])), "true;", "two first ones")
}

// signedAllTheSame signs three of one author, which may not be ManifestOk. The body
// of the first one has number 2.
func signedAllTheSame(list ...impl.Manifest) (impl.Ledger, []impl.Manifest) {
	l := ledger(nonce(9), key(list[0].Author))
	for n := range list {
		l.L = append(l.L, bodyTerm(list[n]), sign(1, len(l.L)))
		list[n].Sig = len(l.L) - 1
	}
	return l, list
}

// badTrees are trees of which no manifest may be, though they know of as much as a
// good one.
func badTrees() map[string]impl.Tree {
	v := vec(9, 9, 9, 9)
	return map[string]impl.Tree{
		"nine entries":        treeOf(v, fullTree().L[:9]...),
		"a deed twice":        treeOf(v, wrote("a", 1, 0, 1), wrote("b", 1, 0, 1)),
		"not in order":        treeOf(v, wrote("b", 1, 0, 1), wrote("a", 1, 0, 2)),
		"no name":             treeOf(v, wrote("", 1, 0, 1)),
		"a name with a blank": treeOf(v, wrote("a b", 1, 0, 1)),
		"Val is too great":    treeOf(v, wrote("a", 1000, 0, 1)),
		"By is no device":     treeOf(v, wrote("a", 1, 4, 1)),
		"At is 0":             treeOf(v, wrote("a", 1, 0, 0)),
		"At is not known of":  treeOf(v, wrote("a", 1, 0, 10)),
	}
}

// TestSaidNotToBeSaid: one of two may not be, and all else is as it is asked.
func TestSaidNotToBeSaid(t *testing.T) {
	type row struct {
		what            string
		turn            func(a, fork, next *impl.Manifest)
		forked, follows bool
	}
	rows := []row{
		{"as they are", func(a, fork, next *impl.Manifest) {}, true, true},
		{"no device", func(a, fork, next *impl.Manifest) { a.Author, fork.Author, next.Author = 4, 4, 4 }, false, false},
		{"no Prev", func(a, fork, next *impl.Manifest) { a.Prev = 0 }, false, false},
		{"no Prev in the fork", func(a, fork, next *impl.Manifest) { fork.Prev = 0 }, false, true},
		{"Prev too great", func(a, fork, next *impl.Manifest) { a.Prev = 401 }, false, false},
		{"Prev too great in the fork", func(a, fork, next *impl.Manifest) { fork.Prev = 401 }, false, true},
		{"Seq of next too great", func(a, fork, next *impl.Manifest) { a.Seq, fork.Seq, next.Seq = 100, 100, 101 }, true, false},
		{"Seq too great", func(a, fork, next *impl.Manifest) { a.Seq, fork.Seq, next.Seq = 101, 101, 102 }, false, false},
		{"Seq too small", func(a, fork, next *impl.Manifest) { a.Seq, fork.Seq, next.Seq = 0, 0, 1 }, false, false},
	}
	for what, x := range badTrees() {
		rows = append(rows, row{what, func(a, fork, next *impl.Manifest) { a.Tree = x }, false, false},
			row{what + " in the fork", func(a, fork, next *impl.Manifest) { fork.Tree = x }, false, true},
			row{what + " in next", func(a, fork, next *impl.Manifest) { next.Tree = x }, true, false})
	}
	for _, r := range rows {
		v := vec(9, 9, 9, 9)
		a, fork := said(1, 5, 9, treeOf(v, wrote("x", 1, 0, 9)), 0), said(1, 5, 9, treeOf(v, wrote("x", 2, 0, 9)), 0)
		next := said(1, 6, 3, treeOf(v), 0)
		r.turn(&a, &fork, &next)
		l, m := signedAllTheSame(a, fork, next)
		check(t, shown(impl.LedgerOk(l), l.L[2]), shown(true, bodyTerm(a)), r.what)
		check(t, shown(impl.Forked(l, m[0], m[1]), impl.Forked(l, m[1], m[0])), shown(r.forked, r.forked), "Forked: "+r.what)
		check(t, shown(impl.Follows(l, m[0], m[2])), shown(r.follows), "Follows: "+r.what)
	}
}

// TestSaidLedgers: in a ledger that is not LedgerOk nothing is said, though marks
// and texts are all there.
func TestSaidLedgers(t *testing.T) {
	good, m := twoSaid()
	more := func(terms ...impl.Term) impl.Ledger { return ledger(append(good.L[:7:7], terms...)...) }
	bad := map[string]impl.Ledger{
		"a term twice":           more(nonce(1)),
		"a mark twice":           more(sign(1, 2)),
		"a text twice":           more(good.L[2]),
		"an atom too great":      more(nonce(1000)),
		"made of one behind":     more(hash(8), nonce(3)),
		"no kind":                more(bare(7, 0, 0)),
		"a text too long":        more(textOf(301)),
		"signed by no key":       more(sign(0, 0)),
		"a text in front":        ledger(append([]impl.Term{withText(nonce(1))}, good.L[1:]...)...),
		"a number that is far":   more(pair(math.MaxInt, 0)),
		"one that is below":      more(pair(math.MinInt, 0)),
		"one term too many":      more(slices.Concat(nonces(401).L[2:396])...),
		"many terms too many":    more(slices.Repeat(good.L, 300)...),
		"the mark's key behind":  ledger(good.L[0], key(2), good.L[2], sign(4, 2), key(1), good.L[5], sign(4, 5)),
		"the mark's text behind": ledger(good.L[0], good.L[1], good.L[5], sign(1, 5), key(0), good.L[2], sign(1, 2)),
	}
	for what, l := range bad {
		refuses(t, what, l)
	}
	full := more(nonces(395).L[2:]...)
	check(t, shown(len(full.L), impl.SigOk(full, m[0]), impl.Follows(full, m[0], m[1]), impl.Body(full, m[1])), "400;true;true;5;", "a full one")
}
