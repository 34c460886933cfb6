package tests

import (
	"bytes"
	"fmt"
	"sort"

	"loop.example/g00642/impl"
)

// What chapter 1 says, written down once more, as directly as can be: no maps of
// numbers, no kinds of their own, everything sought from the front.

func modelMadeOf(t impl.Term) []int {
	switch t.Kind {
	case impl.TmHash:
		return []int{t.A}
	case impl.TmPair, impl.TmSeal, impl.TmSign:
		return []int{t.A, t.B}
	}
	return nil
}

func modelFits(ahead []impl.Term, t impl.Term) bool {
	for _, n := range modelMadeOf(t) {
		if n < 0 || n >= len(ahead) {
			return false
		}
	}
	switch t.Kind {
	case impl.TmNonce, impl.TmKey:
		return 0 <= t.A && t.A <= 999 && t.B == 0 && len(t.Text) == 0
	case impl.TmText:
		return t.A == 0 && t.B == 0 && len(t.Text) <= 300
	case impl.TmPair:
		return len(t.Text) == 0
	case impl.TmHash:
		return t.B == 0 && len(t.Text) == 0
	case impl.TmSeal, impl.TmSign:
		return ahead[t.A].Kind == impl.TmKey && len(t.Text) == 0
	}
	return false
}

func modelAlike(x, y impl.Term) bool {
	return x.Kind == y.Kind && x.A == y.A && x.B == y.B && bytes.Equal(x.Text, y.Text)
}

func modelFind(terms []impl.Term, t impl.Term) int {
	for n, x := range terms {
		if modelAlike(x, t) {
			return n
		}
	}
	return -1
}

func modelLedgerOk(l impl.Ledger) bool {
	if len(l.L) > 400 {
		return false
	}
	for n, t := range l.L {
		if !modelFits(l.L[:n], t) || modelFind(l.L[:n], t) >= 0 {
			return false
		}
	}
	return true
}

// model is a ledger, and whether it is LedgerOk.
type model struct {
	l  impl.Ledger
	ok bool
}

func modelOf(l impl.Ledger) model { return model{l, modelLedgerOk(l)} }

func (m model) has(id int) bool { return m.ok && id >= 0 && id < len(m.l.L) }

func (m model) termOk(t impl.Term) bool { return m.ok && modelFits(m.l.L, t) }

func (m model) lookup(t impl.Term) int {
	if !m.ok {
		return -1
	}
	return modelFind(m.l.L, t)
}

func (m model) intern(t impl.Term) (impl.Ledger, int) {
	if !m.termOk(t) {
		return impl.Ledger{}, -1
	}
	if n := modelFind(m.l.L, t); n >= 0 {
		return m.l, n
	}
	if len(m.l.L) == 400 {
		return impl.Ledger{}, -1
	}
	return impl.Ledger{L: append(append([]impl.Term{}, m.l.L...), t)}, len(m.l.L)
}

func (m model) at(id int) (impl.Term, bool) {
	if !m.has(id) {
		return impl.Term{}, false
	}
	return m.l.L[id], true
}

func (m model) open(key, id int) (int, bool) {
	if !m.has(id) || m.l.L[id].Kind != impl.TmSeal || m.l.L[id].A != key {
		return -1, false
	}
	return m.l.L[id].B, true
}

func (m model) verify(key, sig, msg int) bool {
	return m.has(sig) && modelAlike(m.l.L[sig], impl.Term{Kind: impl.TmSign, A: key, B: msg})
}

func (m model) subterms(id int) []int {
	if !m.has(id) {
		return nil
	}
	seen := map[int]bool{}
	todo := []int{id}
	for len(todo) > 0 {
		n := todo[0]
		todo = todo[1:]
		if !seen[n] {
			seen[n] = true
			todo = append(todo, modelMadeOf(m.l.L[n])...)
		}
	}
	var out []int
	for n := range seen {
		out = append(out, n)
	}
	sort.Ints(out)
	return out
}

// depth is for small ledgers: it goes through a term as often as it is used.
func (m model) depth(id int) int {
	if !m.has(id) {
		return -1
	}
	most := 0
	for _, n := range modelMadeOf(m.l.L[id]) {
		most = max(most, m.depth(n))
	}
	return most + 1
}

func (m model) text(id int) []byte {
	if !m.has(id) {
		return nil
	}
	t := m.l.L[id]
	word := []string{"nonce", "key", "text", "pair", "hash", "seal", "sign"}[t.Kind]
	switch t.Kind {
	case impl.TmText:
		return []byte(fmt.Sprintf("%s %d", word, len(t.Text)))
	case impl.TmPair, impl.TmSeal, impl.TmSign:
		return []byte(fmt.Sprintf("%s %d %d", word, t.A, t.B))
	}
	return []byte(fmt.Sprintf("%s %d", word, t.A))
}

func (m model) count(kind int) int {
	if !m.ok {
		return -1
	}
	n := 0
	for _, t := range m.l.L {
		if t.Kind == kind {
			n++
		}
	}
	return n
}

func (m model) keys() []int {
	var out []int
	for n, t := range m.l.L {
		if m.ok && t.Kind == impl.TmKey {
			out = append(out, n)
		}
	}
	return out
}

func (m model) uses(id int) []int {
	var out []int
	for n, t := range m.l.L {
		parts := modelMadeOf(t)
		if m.ok && (len(parts) > 0 && parts[0] == id || len(parts) > 1 && parts[1] == id) {
			out = append(out, n)
		}
	}
	return out
}
