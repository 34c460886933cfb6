package tests

import (
	"encoding/hex"
	"fmt"
	"slices"
	"testing"

	"loop.example/g00642/impl"
)

// What chapter 4 says, written down once more, as directly as can be: bytes are
// written in hexadecimal and read by their places, marks are gone through by hand.

func modelManifestOk(m impl.Manifest) bool {
	switch {
	case !modelTreeOk(m.Tree), len(m.Tree.L) > 8, m.Author < 0, m.Author > 3, m.Sig < 0, m.Sig > 399:
		return false
	case m.Seq == 1:
		return m.Prev == 0
	}
	return m.Seq > 1 && m.Seq <= 100 && m.Prev >= 1 && m.Prev <= 400
}

// rawBody and rawBytes write any manifest whose numbers have room in their bytes.
func rawBody(m impl.Manifest) []byte {
	return unHex(fmt.Sprintf("%02x%02x%04x", m.Author, m.Seq, m.Prev) + modelBytes(m.Tree))
}

func rawBytes(m impl.Manifest) []byte {
	return append(unHex(fmt.Sprintf("%04x", m.Sig)), rawBody(m)...)
}

func unHex(s string) []byte {
	b, err := hex.DecodeString(s)
	if err != nil {
		panic(err)
	}
	return b
}

func modelBodyBytes(m impl.Manifest) ([]byte, bool) {
	if !modelManifestOk(m) {
		return nil, false
	}
	return rawBody(m), true
}

func modelManifestBytes(m impl.Manifest) ([]byte, bool) {
	if !modelManifestOk(m) {
		return nil, false
	}
	return rawBytes(m), true
}

// modelRead finds each number where those ahead of it end.
func modelRead(b []byte) (impl.Manifest, bool) {
	if len(b) < 15 {
		return impl.Manifest{}, false
	}
	two := func(at int) int { return 256*int(b[at]) + int(b[at+1]) }
	m := impl.Manifest{Sig: two(0), Author: int(b[2]), Seq: int(b[3]), Prev: two(4)}
	m.Tree.Vec = []int{two(6), two(8), two(10), two(12)}
	at := 15
	for range b[14] {
		if at >= len(b) || at+int(b[at])+6 > len(b) {
			return impl.Manifest{}, false
		}
		name := b[at+1 : at+1+int(b[at])]
		at += 1 + len(name)
		m.Tree.L = append(m.Tree.L, impl.Entry{Name: name, Val: two(at), By: int(b[at+2]), At: two(at + 3)})
		at += 5
	}
	if at != len(b) || !modelManifestOk(m) {
		return impl.Manifest{}, false
	}
	return m, true
}

func bodyTerm(m impl.Manifest) impl.Term {
	return impl.Term{Kind: impl.TmText, Text: rawBody(m)}
}

func (w model) body(m impl.Manifest) int {
	if !w.ok || !modelManifestOk(m) {
		return -1
	}
	return modelFind(w.l.L, bodyTerm(m))
}

func (w model) signed(m impl.Manifest) (impl.Ledger, impl.Manifest, bool) {
	if !w.ok || !modelManifestOk(m) || len(w.l.L) > 396 {
		return impl.Ledger{}, impl.Manifest{}, false
	}
	l, k := w.intern(key(m.Author))
	l, n := modelOf(l).intern(bodyTerm(m))
	l, m.Sig = modelOf(l).intern(sign(k, n))
	return l, m, true
}

func (w model) sigOk(m impl.Manifest) bool {
	if !modelManifestOk(m) || !w.has(m.Sig) || w.l.L[m.Sig].Kind != impl.TmSign {
		return false
	}
	mark := w.l.L[m.Sig]
	return modelAlike(w.l.L[mark.A], key(m.Author)) && modelAlike(w.l.L[mark.B], bodyTerm(m))
}

func (w model) follows(m, next impl.Manifest) bool {
	return w.sigOk(m) && w.sigOk(next) && m.Author == next.Author && next.Seq-m.Seq == 1 &&
		next.Prev == w.l.L[m.Sig].B+1 && modelVecBelow(m.Tree.Vec, next.Tree.Vec)
}

func (w model) forked(a, b impl.Manifest) bool {
	return w.sigOk(a) && w.sigOk(b) && a.Author == b.Author && a.Seq == b.Seq &&
		string(rawBody(a)) != string(rawBody(b))
}

// sayAsk is what a function of the chapter may be asked with.
type sayAsk struct {
	l    impl.Ledger
	m, n impl.Manifest
	b    []byte
}

// sayCall is one function of the chapter: how it is asked, and what the model says,
// each with all its answers as a list; what it tells where it refuses, which
// ManifestRead is not asked for with them; and whether it has two manifests.
type sayCall struct {
	name     string
	ask      func(q sayAsk) []any
	model    func(q sayAsk) []any
	refusal  []any
	hasOther bool
}

func threeAnswers(l impl.Ledger, m impl.Manifest, ok bool) []any { return all(l, m, ok) }

func sayCalls() []sayCall {
	nothing := withFlag([]byte{}, false)
	return append(markCalls(), []sayCall{
		{"ManifestOk", func(q sayAsk) []any { return all(impl.ManifestOk(q.m)) },
			func(q sayAsk) []any { return all(modelManifestOk(q.m)) }, all(false), false},
		{"BodyBytes", func(q sayAsk) []any { return withFlag(impl.BodyBytes(q.m)) },
			func(q sayAsk) []any { return withFlag(modelBodyBytes(q.m)) }, nothing, false},
		{"ManifestBytes", func(q sayAsk) []any { return withFlag(impl.ManifestBytes(q.m)) },
			func(q sayAsk) []any { return withFlag(modelManifestBytes(q.m)) }, nothing, false},
		{"ManifestRead", func(q sayAsk) []any { return withFlag(impl.ManifestRead(q.b)) },
			func(q sayAsk) []any { return withFlag(modelRead(q.b)) }, nil, false},
	}...)
}

func markCalls() []sayCall {
	return []sayCall{
		{"Body", func(q sayAsk) []any { return all(impl.Body(q.l, q.m)) },
			func(q sayAsk) []any { return all(modelOf(q.l).body(q.m)) }, all(-1), false},
		{"Signed", func(q sayAsk) []any { return threeAnswers(impl.Signed(q.l, q.m)) },
			func(q sayAsk) []any { return threeAnswers(modelOf(q.l).signed(q.m)) },
			threeAnswers(impl.Ledger{}, impl.Manifest{}, false), false},
		{"SigOk", func(q sayAsk) []any { return all(impl.SigOk(q.l, q.m)) },
			func(q sayAsk) []any { return all(modelOf(q.l).sigOk(q.m)) }, all(false), false},
		{"Follows", func(q sayAsk) []any { return all(impl.Follows(q.l, q.m, q.n)) },
			func(q sayAsk) []any { return all(modelOf(q.l).follows(q.m, q.n)) }, all(false), true},
		{"Forked", func(q sayAsk) []any { return all(impl.Forked(q.l, q.m, q.n)) },
			func(q sayAsk) []any { return all(modelOf(q.l).forked(q.m, q.n)) }, all(false), true},
	}
}

// checkSaid holds every function of the chapter against the model.
func checkSaid(t *testing.T, q sayAsk) {
	t.Helper()
	for _, f := range sayCalls() {
		check(t, shown(f.ask(q)...), shown(f.model(q)...), f.name, q)
	}
}

// refusesManifest fails if a function of the chapter tells of bad, which is not
// ManifestOk, anything but its fixed answer, on whichever side it stands, or reads
// it from its bytes, if they have room for it.
func refusesManifest(t *testing.T, what string, bad impl.Manifest) {
	t.Helper()
	l, good := twoSaid()
	refusesBeside(t, what, l, bad, append(good, bad)...)
	if !hasRoomInBytes(bad) {
		return
	}
	b := rawBytes(bad)
	m, ok := impl.ManifestRead(b)
	check(t, shown(m, ok), shown(withFlag(modelRead(b))...), what+": ManifestRead", b)
	if body := rawBody(bad); len(body) <= impl.MaxText {
		l = ledger(key(bad.Author), text(string(body)), sign(0, 1))
		if bad.Sig >= 0 && bad.Sig < impl.MaxTerms {
			bad.Sig = 2
		}
		refusesBeside(t, what+", signed all the same", l, bad, bad)
	}
}

func refusesBeside(t *testing.T, what string, l impl.Ledger, bad impl.Manifest, others ...impl.Manifest) {
	t.Helper()
	refusesToPull(t, what, l, bad, others...)
	for _, other := range others {
		for _, f := range sayCalls() {
			if f.refusal == nil {
				continue
			}
			q := sayAsk{l: l, m: bad, n: other}
			check(t, shown(f.ask(q)...), shown(f.refusal...), what+": "+f.name, q)
			if q.m, q.n = other, bad; f.hasOther {
				check(t, shown(f.ask(q)...), shown(f.refusal...), what+" as the other one: "+f.name, q)
			}
		}
	}
}

// hasRoomInBytes tells whether each number of m can be written as it is.
func hasRoomInBytes(m impl.Manifest) bool {
	one, two := []int{m.Author, m.Seq, len(m.Tree.L)}, []int{m.Prev, m.Sig}
	for _, e := range m.Tree.L {
		one, two = append(one, len(e.Name), e.By), append(two, e.Val, e.At)
	}
	two = append(two, m.Tree.Vec...)
	return slices.Min(one) >= 0 && slices.Max(one) < 1<<8 && slices.Min(two) >= 0 && slices.Max(two) < 1<<16
}

// refusesBytes fails if anything is read of bytes that no manifest has.
func refusesBytes(t *testing.T, what string, b []byte) {
	t.Helper()
	m, ok := impl.ManifestRead(b)
	check(t, shown(m, ok), shown(impl.Manifest{}, false), what, b)
}

// refusesToSign fails if a function of the chapter tells of l, which is not
// LedgerOk, anything but its fixed answer.
func refusesToSign(t *testing.T, what string, l impl.Ledger) {
	t.Helper()
	_, good := twoSaid()
	for _, m := range good {
		for _, n := range good {
			for _, f := range markCalls() {
				q := sayAsk{l: l, m: m, n: n}
				check(t, shown(f.ask(q)...), shown(f.refusal...), what+": "+f.name, q)
			}
		}
	}
}
