package tests

import (
	"testing"

	"loop.example/g00642/impl"
)

// What chapter 2 says, written down once more, as directly as can be: everything
// is gone through again and again until nothing more comes of it.

// canMake is for small ledgers: it goes through a term as often as it is used.
func (m model) canMake(has map[int]bool, n int) bool {
	if has[n] || m.l.L[n].Kind == impl.TmText {
		return true
	}
	parts := modelMadeOf(m.l.L[n])
	for _, p := range parts {
		if !m.canMake(has, p) {
			return false
		}
	}
	return len(parts) > 0
}

func (m model) takenApart(have []int) map[int]bool {
	has := map[int]bool{}
	for _, n := range have {
		if m.has(n) {
			has[n] = true
		}
	}
	for {
		before := len(has)
		for n, x := range m.l.L {
			switch {
			case !has[n]:
			case x.Kind == impl.TmPair:
				has[x.A], has[x.B] = true, true
			case x.Kind == impl.TmSign, x.Kind == impl.TmSeal && m.canMake(has, x.A):
				has[x.B] = true
			}
		}
		if len(has) == before {
			return has
		}
	}
}

// listed gives all numbers of which that is true.
func (m model) listed(that func(n int) bool) []int {
	var out []int
	for n := range m.l.L {
		if that(n) {
			out = append(out, n)
		}
	}
	return out
}

// can tells of each number whether one can make it, all being taken apart.
func (m model) can(have []int) func(n int) bool {
	has := m.takenApart(have)
	return func(n int) bool { return m.has(n) && m.canMake(has, n) }
}

func (m model) nonceOrKey(n int) bool {
	return m.l.L[n].Kind == impl.TmNonce || m.l.L[n].Kind == impl.TmKey
}

func (m model) missing(have []int, want int) []int {
	can, inside := m.can(have), map[int]bool{}
	for _, n := range m.subterms(want) {
		inside[n] = true
	}
	return m.listed(func(n int) bool { return inside[n] && m.nonceOrKey(n) && !can(n) })
}

func (m model) gains(have []int, id int) []int {
	before, behind := m.can(have), m.can(append([]int{id}, have...))
	return m.listed(func(n int) bool { return behind(n) && !before(n) })
}

// makeCall is one function of the chapter: how it is asked, what the model says,
// what it tells where it refuses, and how many it has beside the list.
type makeCall struct {
	name    string
	ask     func(l impl.Ledger, have []int, id int) any
	model   func(m model, have []int, id int) any
	refusal any
	beside  int
}

func (f makeCall) want(m model, have []int, id int) any {
	if !m.ok || len(have)+f.beside > 1000 {
		return f.refusal
	}
	return f.model(m, have, id)
}

func makeCalls() []makeCall {
	var nothing []int
	return []makeCall{
		{"Opened", func(l impl.Ledger, have []int, id int) any { return impl.Opened(l, have) },
			func(m model, have []int, id int) any {
				has := m.takenApart(have)
				return m.listed(func(n int) bool { return has[n] })
			}, nothing, 0},
		{"All", func(l impl.Ledger, have []int, id int) any { return impl.All(l, have) },
			func(m model, have []int, id int) any { return m.listed(m.can(have)) }, nothing, 0},
		{"Can", func(l impl.Ledger, have []int, id int) any { return impl.Can(l, have, id) },
			func(m model, have []int, id int) any { return m.can(have)(id) }, false, 0},
		{"Secret", func(l impl.Ledger, have []int, id int) any { return impl.Secret(l, have, id) },
			func(m model, have []int, id int) any { return m.has(id) && !m.can(have)(id) }, false, 0},
		{"Missing", func(l impl.Ledger, have []int, id int) any { return impl.Missing(l, have, id) },
			func(m model, have []int, id int) any { return m.missing(have, id) }, nothing, 0},
		{"Leaks", func(l impl.Ledger, have []int, id int) any { return impl.Leaks(l, have) },
			func(m model, have []int, id int) any {
				can := m.can(have)
				return m.listed(func(n int) bool { return m.nonceOrKey(n) && can(n) })
			}, nothing, 0},
		{"Gains", func(l impl.Ledger, have []int, id int) any { return impl.Gains(l, have, id) },
			func(m model, have []int, id int) any { return m.gains(have, id) }, nothing, 1},
	}
}

// checkMade holds every function of the chapter against the model.
func checkMade(t *testing.T, m model, have []int, id int) {
	t.Helper()
	for _, f := range makeCalls() {
		check(t, shown(f.ask(m.l, have, id)), shown(f.want(m, have, id)), f.name, m.l, have, id)
	}
}

// refusesToMake fails if a function of the chapter tells of l, which is not
// LedgerOk, anything but its fixed answer.
func refusesToMake(t *testing.T, what string, l impl.Ledger) {
	t.Helper()
	var every []int
	for n := range l.L {
		every = append(every, n)
	}
	for _, have := range [][]int{nil, {0}, {-1, 1}, every[:min(len(every), 1000)]} {
		for id := -1; id <= min(len(l.L), 4); id++ {
			for _, f := range makeCalls() {
				check(t, shown(f.ask(l, have, id)), shown(f.refusal), what+": "+f.name, have, id)
			}
		}
	}
}
