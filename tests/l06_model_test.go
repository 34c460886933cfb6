package tests

import (
	"fmt"
	"math"
	"slices"
	"strings"
	"testing"

	"loop.example/g00642/impl"
)

// What chapter 6 says, written down once more, as directly as can be: acts are
// numbers in one switch, and what an act may name is a word of letters.

func modelWorldOk(w impl.World) bool {
	m := modelOf(w.Ledger)
	for n, d := range w.Devs[:min(len(w.Devs), 9)] {
		if d.Id != n || !m.deviceOk(d) {
			return false
		}
	}
	for _, p := range w.Store[:min(len(w.Store), 999)] {
		if !modelManifestOk(p) {
			return false
		}
	}
	return m.ok && len(w.Devs) == 4 && len(w.Leaked) == 4 && len(w.Store) <= 100
}

func modelWorldNew() impl.World {
	return impl.World{Devs: []impl.Device{fresh(0), fresh(1), fresh(2), fresh(3)}, Leaked: make([]bool, 4)}
}

// modelActNames tells whether an act of its kind names n, v or a: Name, Val or At; or d:
// a device as At.
func modelActNames(a impl.Act, field string) bool {
	return strings.Contains([]string{"nv", "n", "", "a", "av", "ad", "nv"}[a.Kind], field)
}

func modelActOk(a impl.Act) bool {
	switch {
	case a.Kind < 0, a.Kind > 6, a.Dev < 0, a.Dev > 3, a.At < 0, a.Val < 0, a.Val > 999:
		return false
	case modelActNames(a, "n") && !modelNameOk(a.Name), !modelActNames(a, "n") && len(a.Name) != 0:
		return false
	case !modelActNames(a, "v") && a.Val != 0, !modelActNames(a, "a") && a.At != 0:
		return false
	}
	return !modelActNames(a, "d") || a.At <= 3 && a.At != a.Dev
}

// modelWithDevs puts each device at its place.
func modelWithDevs(w impl.World, devs ...impl.Device) impl.World {
	w.Devs = slices.Clone(w.Devs)
	for _, d := range devs {
		w.Devs[d.Id] = d
	}
	return w
}

// modelWithSaid has one more in Store, and the ledger in which it is signed.
func modelWithSaid(w impl.World, l impl.Ledger, m impl.Manifest) impl.World {
	w.Ledger, w.Store = l, append(slices.Clone(w.Store), m)
	return w
}

func modelTurned(m impl.Manifest, val int) impl.Manifest {
	x := ownTree(m.Tree)
	way, by := val%4, val/4%4
	if way == 0 {
		x.Vec[by] = x.Vec[by] + 1
	}
	if way == 1 && len(x.L) > 0 && x.L[0].Val == 999 {
		x.L[0].Val = 0
	} else if way == 1 && len(x.L) > 0 {
		x.L[0].Val++
	}
	if m.Tree = x; way == 2 && m.Author == 3 {
		m.Author = 0
	} else if way == 2 {
		m.Author++
	}
	if way == 3 && m.Prev == 0 {
		m.Prev = 1
	}
	if way == 3 {
		m.Seq++
	}
	return m
}

// modelFreePut is Put that is not held to limits.
func modelFreePut(x impl.Tree, by int, name []byte, val int) impl.Tree {
	v := slices.Clone(x.Vec)
	v[by]++
	e := impl.Entry{Name: name, Val: val, By: by, At: v[by]}
	return impl.Tree{Vec: v, L: modelSorted(append(modelWithout(x.L, name), e))}
}

// modelLeaked goes through Store from behind, so the first one with a Seq is the last.
func modelLeaked(w impl.World, a impl.Act) (impl.World, int) {
	m := said(a.Dev, 1, 0, treeOf(vec(0, 0, 0, 0)), 0)
	some := false
	for n := len(w.Store) - 1; n >= 0; n-- {
		if p := w.Store[n]; p.Author == a.Dev && (!some || p.Seq > m.Seq) {
			m, some = p, true
		}
	}
	m.Tree = modelFreePut(m.Tree, a.Dev, a.Name, a.Val)
	l, m, ok := modelOf(w.Ledger).signed(m)
	if !ok || len(w.Store) >= 100 {
		return w, -1
	}
	w = modelWithSaid(w, l, m)
	w.Leaked = slices.Clone(w.Leaked)
	w.Leaked[a.Dev] = true
	return w, 0
}

func modelDo(w impl.World, a impl.Act) (impl.World, int) {
	if !modelWorldOk(w) || !modelActOk(a) {
		return impl.World{}, -2
	}
	return modelDone(w, a)
}

// modelDone does what may be asked for in a world that may be.
func modelDone(w impl.World, a impl.Act) (impl.World, int) {
	m, d := model{w.Ledger, true}, w.Devs[a.Dev]
	switch a.Kind {
	case impl.AcEdit:
		if x, ok := m.edit(d, a.Name, a.Val); ok {
			return modelWithDevs(w, x), 0
		}
	case impl.AcDelete:
		if x, ok := m.remove(d, a.Name); ok {
			return modelWithDevs(w, x), 0
		}
	case impl.AcPush:
		if l, x, p, ok := m.push(d); ok && len(w.Store) < 100 {
			return modelWithDevs(modelWithSaid(w, l, p), x), 0
		}
	case impl.AcPull, impl.AcTurn:
		if a.At < len(w.Store) {
			p := w.Store[a.At]
			if a.Kind == impl.AcTurn {
				p = modelTurned(p, a.Val)
			}
			x, told := m.pull(d, p)
			return modelWithDevs(w, x), told
		}
	case impl.AcMeet:
		x, y, forked := m.exchange(d, w.Devs[a.At])
		if forked {
			return modelWithDevs(w, x, y), 1
		}
		return w, 0
	case impl.AcLeak:
		return modelLeaked(w, a)
	}
	return w, -1
}

func modelRun(w impl.World, l []impl.Act) (impl.World, []int, bool) {
	ok := modelWorldOk(w) && len(l) <= 100
	for _, a := range l {
		ok = ok && modelActOk(a)
	}
	if !ok {
		return impl.World{}, nil, false
	}
	var told []int
	for _, a := range l {
		next, code := modelDone(w, a)
		w, told = next, append(told, code)
	}
	return w, told, true
}

func modelAlarms(w impl.World) int {
	count := 0
	for _, d := range w.Devs {
		if d.Alarm {
			count++
		}
	}
	if !modelWorldOk(w) {
		return -1
	}
	return count
}

func modelTreesAlike(w impl.World) bool {
	trees := map[string]bool{}
	for _, d := range w.Devs {
		if !d.Alarm {
			trees[shown(d.Tree)] = true
		}
	}
	return modelWorldOk(w) && len(trees) <= 1
}

func modelSafe(w impl.World) bool {
	return modelAlarms(w) == 0 && fmt.Sprint(w.Leaked) == "[false false false false]"
}

func modelActText(a impl.Act) []byte {
	if !modelActOk(a) {
		return nil
	}
	form := []string{"edit %[1]d %[2]s %[3]d", "delete %[1]d %[2]s", "push %[1]d", "pull %[1]d %[4]d", "turn %[1]d %[4]d", "meet %[1]d %[4]d", "leak %[1]d %[2]s %[3]d"}
	return []byte(fmt.Sprintf(form[a.Kind], a.Dev, a.Name, a.Val, a.At))
}

func modelWorldText(w impl.World) []byte {
	out := ""
	for n, d := range w.Devs {
		out += fmt.Sprintf("device %d", n)
		for _, f := range modelView(d.Tree) {
			out += fmt.Sprintf(" %s=%d", f.Name, f.Val)
		}
		out += map[bool]string{true: " alarm\n", false: "\n"}[d.Alarm]
	}
	if !modelWorldOk(w) {
		return nil
	}
	return []byte(out)
}

func modelSaid(w impl.World, author int) []int {
	var out []int
	for n, m := range w.Store {
		if modelWorldOk(w) && m.Author == author {
			out = append(out, n)
		}
	}
	return out
}

func modelUntaken(w impl.World, dev int) []int {
	if !modelWorldOk(w) || dev < 0 || dev > 3 {
		return nil
	}
	var out []int
	for n, m := range w.Store {
		if (model{w.Ledger, true}).wants(w.Devs[dev], m) {
			out = append(out, n)
		}
	}
	return out
}

// worldAsk is what a function of the chapter may be asked with. The number is an
// author, or a device.
type worldAsk struct {
	w    impl.World
	a    impl.Act
	acts []impl.Act
	n    int
}

// worldCall is one function of the chapter: how it is asked, and what the model says,
// each with all its answers as a list. Refusal is what it tells where the world is not
// WorldOk; three do not ask for one.
type worldCall struct {
	name    string
	ask     func(q worldAsk) []any
	model   func(q worldAsk) []any
	refusal []any
}

func worldAndCode(w impl.World, told int) []any { return all(w, told) }

func worldAndAll(w impl.World, told []int, ok bool) []any { return all(w, told, ok) }

func worldCalls() []worldCall {
	return append(actCalls(), []worldCall{
		{"WorldOk", func(q worldAsk) []any { return all(impl.WorldOk(q.w)) },
			func(q worldAsk) []any { return all(modelWorldOk(q.w)) }, all(false)},
		{"Alike", func(q worldAsk) []any { return all(impl.Alike(q.w)) },
			func(q worldAsk) []any { return all(modelTreesAlike(q.w)) }, all(false)},
		{"Alarms", func(q worldAsk) []any { return all(impl.Alarms(q.w)) },
			func(q worldAsk) []any { return all(modelAlarms(q.w)) }, all(-1)},
		{"WorldText", func(q worldAsk) []any { return all(impl.WorldText(q.w)) },
			func(q worldAsk) []any { return all(modelWorldText(q.w)) }, all([]byte{})},
		{"Said", func(q worldAsk) []any { return all(impl.Said(q.w, q.n)) },
			func(q worldAsk) []any { return all(modelSaid(q.w, q.n)) }, all([]int{})},
		{"Untaken", func(q worldAsk) []any { return all(impl.Untaken(q.w, q.n)) },
			func(q worldAsk) []any { return all(modelUntaken(q.w, q.n)) }, all([]int{})},
		{"Safe", func(q worldAsk) []any { return all(impl.Safe(q.w)) },
			func(q worldAsk) []any { return all(modelSafe(q.w)) }, all(false)},
	}...)
}

func actCalls() []worldCall {
	return []worldCall{
		{"WorldNew", func(q worldAsk) []any { return all(impl.WorldNew()) },
			func(q worldAsk) []any { return all(modelWorldNew()) }, nil},
		{"ActOk", func(q worldAsk) []any { return all(impl.ActOk(q.a)) },
			func(q worldAsk) []any { return all(modelActOk(q.a)) }, nil},
		{"ActText", func(q worldAsk) []any { return all(impl.ActText(q.a)) },
			func(q worldAsk) []any { return all(modelActText(q.a)) }, nil},
		{"Do", func(q worldAsk) []any { return worldAndCode(impl.Do(q.w, q.a)) },
			func(q worldAsk) []any { return worldAndCode(modelDo(q.w, q.a)) }, worldAndCode(impl.World{}, -2)},
		{"Run", func(q worldAsk) []any { return worldAndAll(impl.Run(q.w, q.acts)) },
			func(q worldAsk) []any { return worldAndAll(modelRun(q.w, q.acts)) }, worldAndAll(impl.World{}, nil, false)},
	}
}

// checkWorlds holds every function of the chapter against the model.
func checkWorlds(t *testing.T, q worldAsk) {
	t.Helper()
	for _, f := range worldCalls() {
		check(t, shown(f.ask(q)...), shown(f.model(q)...), f.name, q)
	}
}

// refusesWorld fails if a function of the chapter tells of bad, which is not WorldOk,
// anything but its fixed answer, whatever else it is asked with.
func refusesWorld(t *testing.T, what string, bad impl.World) {
	t.Helper()
	acts := append(oneOfEach(len(what)%4), impl.Act{Kind: 7, Dev: 4, At: -1, Val: math.MaxInt})
	for n, a := range acts {
		q := worldAsk{w: bad, a: a, acts: acts[:n], n: n%6 - 1}
		for _, f := range worldCalls() {
			if f.refusal != nil {
				check(t, shown(f.ask(q)...), shown(f.refusal...), what+": "+f.name, q)
			}
		}
	}
}

// oneOfEach has an act of that device of each kind.
func oneOfEach(dev int) []impl.Act {
	x := []byte("x")
	return []impl.Act{
		{Kind: impl.AcEdit, Dev: dev, Name: x, Val: 5}, {Kind: impl.AcDelete, Dev: dev, Name: x}, {Kind: impl.AcPush, Dev: dev},
		{Kind: impl.AcPull, Dev: dev}, {Kind: impl.AcTurn, Dev: dev, Val: 2}, {Kind: impl.AcMeet, Dev: dev, At: (dev + 1) % 4},
		{Kind: impl.AcLeak, Dev: dev, Name: x, Val: 7},
	}
}

// worldOf has these devices in place of those that have nothing.
func worldOf(l impl.Ledger, devs ...impl.Device) impl.World {
	w := modelWithDevs(modelWorldNew(), devs...)
	w.Ledger = l
	return w
}

// refusesInWorld fails if there may be a world with bad, which is not DeviceOk by l.
// One that is no device stands at the first place.
func refusesInWorld(t *testing.T, what string, l impl.Ledger, bad impl.Device) {
	t.Helper()
	w := worldOf(l)
	w.Devs[max(0, bad.Id)&3] = bad
	refusesWorld(t, what+" in a world", w)
}

// refusesInStore fails if bad, which is not ManifestOk, may stand in a Store.
func refusesInStore(t *testing.T, what string, l impl.Ledger, bad impl.Manifest) {
	t.Helper()
	w := worldOf(l)
	for _, store := range [][]impl.Manifest{{bad}, {saidX(0), bad}, {bad, saidX(0)}} {
		w.Store = store
		refusesWorld(t, what+" in Store", w)
	}
}
