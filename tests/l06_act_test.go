package tests

import (
	"math"
	"slices"
	"testing"

	"loop.example/g00642/impl"
)

func edits(dev int, name string, val int) impl.Act {
	return impl.Act{Kind: impl.AcEdit, Dev: dev, Name: []byte(name), Val: val}
}

func drops(dev int, name string) impl.Act {
	return impl.Act{Kind: impl.AcDelete, Dev: dev, Name: []byte(name)}
}

func pushes(dev int) impl.Act { return impl.Act{Kind: impl.AcPush, Dev: dev} }

func pulls(dev, at int) impl.Act { return impl.Act{Kind: impl.AcPull, Dev: dev, At: at} }

func turns(dev, at, val int) impl.Act {
	return impl.Act{Kind: impl.AcTurn, Dev: dev, At: at, Val: val}
}

func meets(dev, at int) impl.Act { return impl.Act{Kind: impl.AcMeet, Dev: dev, At: at} }

func leaks(dev int, name string, val int) impl.Act {
	return impl.Act{Kind: impl.AcLeak, Dev: dev, Name: []byte(name), Val: val}
}

// refusesAct fails if a, which is not ActOk, is told of or done, alone or in a run.
func refusesAct(t *testing.T, what string, a impl.Act) {
	t.Helper()
	check(t, shown(impl.ActOk(a), impl.ActText(a)), shown(false, []byte{}), what+": ActOk, ActText", a)
	for _, w := range []impl.World{modelWorldNew(), storyWorld(), {}} {
		after, told := impl.Do(w, a)
		check(t, shown(after, told), shown(impl.World{}, -2), what+": Do", a)
		good := pushes(1)
		for _, l := range [][]impl.Act{{a}, {a, good, good}, {good, a, good}, {good, good, a}} {
			after, codes, ok := impl.Run(w, l)
			check(t, shown(after, codes, ok), shown(impl.World{}, []int{}, false), what+": Run", l)
		}
	}
}

// takesAct fails unless a is ActOk.
func takesAct(t *testing.T, what string, a impl.Act) {
	t.Helper()
	_, told := impl.Do(storyWorld(), a)
	check(t, shown(impl.ActOk(a), told == -2, len(impl.ActText(a)) > 0), "true;false;true;", what, a)
}

// TestWorldsActNames: for each kind each field that is named, zero and not zero.
func TestWorldsActNames(t *testing.T) {
	may := map[int][]string{
		impl.AcEdit: {"n", "nv"}, impl.AcDelete: {"n"}, impl.AcPush: {""}, impl.AcPull: {"", "a"},
		impl.AcTurn: {"", "a", "v", "va"}, impl.AcMeet: {"", "a"}, impl.AcLeak: {"n", "nv"},
	}
	for kind := range 7 {
		for fields := range 8 {
			a, names := impl.Act{Kind: kind, Dev: 2}, ""
			if fields&1 > 0 {
				a.Name, names = []byte("x"), names+"n"
			}
			if fields&2 > 0 {
				a.Val, names = 1, names+"v"
			}
			if fields&4 > 0 {
				a.At, names = 1, names+"a"
			}
			if slices.Contains(may[kind], names) {
				takesAct(t, "names "+names, a)
			} else {
				refusesAct(t, "names "+names, a)
			}
		}
	}
}

// TestWorldsActLimits: each field just inside and just outside, and far outside.
func TestWorldsActLimits(t *testing.T) {
	for _, kind := range append([]int{-1, 7, 8}, farNumbers...) {
		for _, a := range append(oneOfEach(0), oneOfEach(3)...) {
			a.Kind = kind
			refusesAct(t, "Kind", a)
		}
		refusesAct(t, "Kind", impl.Act{Kind: kind})
	}
	for dev := range 4 {
		for _, a := range oneOfEach(dev) {
			takesAct(t, "Dev", a)
		}
	}
	for _, dev := range append([]int{-1, 4, 5}, farNumbers...) {
		for _, a := range oneOfEach(1) {
			a.Dev = dev
			refusesAct(t, "Dev", a)
		}
	}
	for _, a := range oneOfEach(1) {
		for _, n := range []int{-1, 1000, math.MinInt, math.MaxInt} {
			turned := a
			turned.Val = n
			refusesAct(t, "Val", turned)
			turned = a
			if turned.At = n; n < 0 || a.Kind != impl.AcPull && a.Kind != impl.AcTurn {
				refusesAct(t, "At", turned)
			}
		}
	}
	for _, a := range []impl.Act{edits(1, "x", 0), turns(1, 0, 0), leaks(1, "x", 0)} {
		for _, val := range []int{0, 1, 998, 999} {
			a.Val = val
			takesAct(t, "Val", a)
		}
		for _, val := range append([]int{-1, 1001}, farNumbers...) {
			a.Val = val
			refusesAct(t, "Val", a)
		}
	}
	for _, a := range []impl.Act{pulls(1, 0), turns(1, 0, 3)} {
		for _, at := range []int{0, 2, 3, 99, 100, 1000, math.MaxInt} {
			a.At = at
			takesAct(t, "At", a)
		}
		for _, at := range []int{-1, -2, math.MinInt} {
			a.At = at
			refusesAct(t, "At", a)
		}
	}
}

func TestWorldsActMeet(t *testing.T) {
	for dev := range 4 {
		for at := range 4 {
			if at == dev {
				refusesAct(t, "with itself", meets(dev, at))
			} else {
				takesAct(t, "with another one", meets(dev, at))
			}
		}
		for _, at := range append([]int{-1, 4, 5}, farNumbers...) {
			refusesAct(t, "with none", meets(dev, at))
		}
	}
}

func TestWorldsActNamesOk(t *testing.T) {
	for _, name := range goodNames() {
		for _, a := range []impl.Act{edits(1, name, 3), drops(1, name), leaks(1, name, 3)} {
			takesAct(t, "Name", a)
		}
	}
	for _, name := range badNames() {
		for _, a := range []impl.Act{edits(1, name, 3), drops(1, name), leaks(1, name, 3)} {
			refusesAct(t, "Name", a)
		}
		if len(name) > 0 {
			refusesAct(t, "Name", impl.Act{Kind: impl.AcPush, Name: []byte(name)})
		}
	}
}

func TestWorldsActText(t *testing.T) {
	for want, a := range map[string]impl.Act{
		"edit 0 x 5":                 edits(0, "x", 5),
		"edit 3 abcdef 0":            edits(3, "abcdef", 0),
		"edit 1 \u4e2d\u6587 10":     edits(1, "\u4e2d\u6587", 10),
		"delete 2 x":                 drops(2, "x"),
		"push 0":                     pushes(0),
		"push 3":                     pushes(3),
		"pull 1 0":                   pulls(1, 0),
		"pull 1 9223372036854775807": {Kind: impl.AcPull, Dev: 1, At: math.MaxInt},
		"turn 2 17":                  turns(2, 17, 999),
		"turn 0 0":                   turns(0, 0, 0),
		"meet 1 3":                   meets(1, 3),
		"meet 3 0":                   meets(3, 0),
		"leak 0 z 999":               leaks(0, "z", 999),
		"leak 2 7 0":                 leaks(2, "7", 0),
	} {
		check(t, string(impl.ActText(a)), want, a)
	}
}

// checkDone fails unless a tells that, and leaves want of w, alone, in a run, and
// behind others that can't be done.
func checkDone(t *testing.T, what string, w impl.World, a impl.Act, want impl.World, told int) {
	t.Helper()
	check(t, shown(impl.WorldOk(w)), "true;", what+": before")
	after, code := impl.Do(w, a)
	check(t, shown(after, code), shown(want, told), what, w, a)
	check(t, shown(impl.WorldOk(after)), "true;", what+": after")
	behind := pulls(3, 100)
	after, codes, ok := impl.Run(w, []impl.Act{behind, a, behind})
	check(t, shown(after, codes, ok), shown(want, []int{-1, told, -1}, true), what+": Run", w, a)
}

// cantDo fails unless w stays as it was.
func cantDo(t *testing.T, what string, w impl.World, a impl.Act) {
	t.Helper()
	checkDone(t, what, w, a, w, -1)
}

func TestWorldsEdit(t *testing.T) {
	w := storyWorld()
	for dev := range 4 {
		if dev == 1 || dev == 2 {
			continue
		}
		d := w.Devs[dev]
		x, _ := modelPut(d.Tree, dev, []byte("y"), 999)
		d.Tree = x
		checkDone(t, "edit", w, edits(dev, "y", 999), modelWithDevs(w, d), 0)
	}
	l, h, _ := fourSaid(t)
	full := worldOf(l, device(3, fullTree(), h...), device(1, treeOf(vec(0, 1000, 0, 0)), h[1]))
	cantDo(t, "one name too many", full, edits(3, "y", 7))
	cantDo(t, "one deed too many", full, edits(1, "y", 7))
	over := append([]impl.Entry{wrote("a", 0, 3, fullTree().Vec[3]+1)}, fullTree().L[1:]...)
	v := slices.Clone(fullTree().Vec)
	v[3]++
	checkDone(t, "over a file", full, edits(3, "a", 0), modelWithDevs(full, device(3, treeOf(v, over...), h...)), 0)
}

func TestWorldsDelete(t *testing.T) {
	l, h, _ := fourSaid(t)
	w := worldOf(l, device(3, fullTree(), h...))
	for _, name := range []string{"y", "A", "aa", "zz"} {
		cantDo(t, "none of that name", w, drops(3, name))
	}
	cantDo(t, "another one has it", w, drops(2, "a"))
	checkDone(t, "the first", w, drops(3, "a"), modelWithDevs(w, device(3, treeOf(fullTree().Vec, fullTree().L[1:]...), h...)), 0)
	checkDone(t, "three of one name", w, drops(3, "z"), modelWithDevs(w, device(3, treeOf(fullTree().Vec, fullTree().L[:9]...), h...)), 0)
}

// checkSays fails unless dev says want, but for the mark, which is behind all in Store
// and its head then.
func checkSays(t *testing.T, what string, w impl.World, dev int, want impl.Manifest) {
	t.Helper()
	l, list := madeSaid(t, w.Ledger, want)
	after := modelWithSaid(w, l, list[0])
	checkDone(t, what, w, pushes(dev), modelWithDevs(after, modelWithHead(w.Devs[dev], list[0])), 0)
}

func TestWorldsPush(t *testing.T) {
	l, h, _ := fourSaid(t)
	w := worldOf(l, device(0, ones(), h...), device(1, ones(), h[1]), device(2, ones(), h[0]), device(3, ones()))
	checkSays(t, "behind a head", w, 0, said(0, 2, 2, ones(), 0))
	checkSays(t, "behind a head", w, 1, said(1, 2, 5, ones(), 0))
	checkSays(t, "the first", w, 2, said(2, 1, 0, ones(), 0))
	checkSays(t, "the first", w, 3, said(3, 1, 0, ones(), 0))
	for count := range 100 {
		checkSays(t, "room in Store", inStore(w, count), 2, said(2, 1, 0, ones(), 0))
	}
	for dev := range 4 {
		cantDo(t, "no room in Store", inStore(w, 100), pushes(dev))
	}
	checkSays(t, "room for terms", worldOf(nonces(396)), 0, said(0, 1, 0, impl.TreeNew(), 0))
	cantDo(t, "no room for terms", worldOf(nonces(397)), pushes(0))
	eight := treeOf(fullTree().Vec, fullTree().L[:8]...)
	checkSays(t, "eight files", worldOf(l, device(1, eight)), 1, said(1, 1, 0, eight, 0))
	cantDo(t, "nine files", worldOf(l, device(1, treeOf(fullTree().Vec, fullTree().L[:9]...))), pushes(1))
	l, list := madeSaid(t, sample(), said(2, 99, 7, ones(), 0), said(3, 100, 7, ones(), 0))
	w = worldOf(l, device(2, ones(), list[0]), device(3, ones(), list[1]))
	checkSays(t, "the last Seq", w, 2, said(2, 100, impl.Body(l, list[0])+1, ones(), 0))
	cantDo(t, "behind the last Seq", w, pushes(3))
}

// TestWorldsPull has each code that there may be of what is in Store.
func TestWorldsPull(t *testing.T) {
	l, h, f := fourSaid(t)
	l, more := madeSaid(t, l, said(1, 2, 5, treeOf(vec(0, 2, 0, 0), wrote("y", 3, 1, 2)), 0), said(2, 1, 0, treeOf(vec(0, 0, 9, 0), wrote("y", 4, 2, 1)), 0))
	w := worldOf(l, device(0, ones(), h[1]), device(3, treeOf(vec(0, 0, 1, 0), wrote("y", 5, 2, 1))))
	w.Store = []impl.Manifest{h[1], more[0], f[1], saidX(0), more[1]}
	rows := []struct {
		dev, at, told int
		want          impl.Device
	}{
		{1, 0, impl.PlTaken, device(1, h[1].Tree, h[1])},
		{0, 0, impl.PlOld, w.Devs[0]},
		{0, 1, impl.PlTaken, device(0, treeOf(vec(1, 2, 1, 1), wrote("y", 3, 1, 2)), more[0])},
		{1, 1, impl.PlGap, w.Devs[1]},
		{0, 2, impl.PlFork, modelWarned(w.Devs[0], h[1], f[1])},
		{2, 2, impl.PlTaken, device(2, f[1].Tree, f[1])},
		{2, 3, impl.PlSig, w.Devs[2]},
		{3, 4, impl.PlClash, w.Devs[3]},
		{2, 4, impl.PlTaken, device(2, more[1].Tree, more[1])},
	}
	for _, r := range rows {
		checkDone(t, shown(r), w, pulls(r.dev, r.at), modelWithDevs(w, r.want), r.told)
	}
	alarmed := modelWithDevs(w, modelWarned(w.Devs[0], h[3], f[3]))
	for at := range w.Store {
		checkDone(t, "in alarm", alarmed, pulls(0, at), alarmed, impl.PlAlarm)
	}
	for _, at := range []int{5, 6, 100, 1000, math.MaxInt} {
		cantDo(t, "none at that place", w, pulls(0, at))
		cantDo(t, "none at that place", w, turns(0, at, 1))
		cantDo(t, "none at that place, in alarm", alarmed, pulls(0, at))
		cantDo(t, "none at that place, in alarm", alarmed, turns(0, at, 999))
	}
	cantDo(t, "nothing in Store", worldOf(l), pulls(0, 0))
	cantDo(t, "nothing in Store", worldOf(l), turns(0, 0, 0))
}

// turning is one way to turn from into to.
type turning struct {
	what     string
	from, to impl.Manifest
	vals     []int
}

func turnings() []turning {
	x, two := wrote("x", 7, 1, 1), wrote("y", 8, 2, 1)
	tree := func(v []int) impl.Tree { return treeOf(v, x, two) }
	some := said(1, 1, 0, tree(vec(5, 6, 7, 8)), 0)
	valued := func(val int) impl.Manifest {
		return said(1, 1, 0, treeOf(vec(5, 6, 7, 8), wrote("x", val, 1, 1), two), 0)
	}
	by := func(author int) impl.Manifest { return said(author, 1, 0, some.Tree, 0) }
	return []turning{
		{"Vec of the first", some, said(1, 1, 0, tree(vec(6, 6, 7, 8)), 0), []int{0, 16, 32, 992}},
		{"Vec of the second", some, said(1, 1, 0, tree(vec(5, 7, 7, 8)), 0), []int{4, 20, 996}},
		{"Vec of the third", some, said(1, 1, 0, tree(vec(5, 6, 8, 8)), 0), []int{8, 24, 984}},
		{"Vec of the last", some, said(1, 1, 0, tree(vec(5, 6, 7, 9)), 0), []int{12, 28, 988}},
		{"Vec to the last deed", said(1, 1, 0, tree(vec(5, 6, 999, 8)), 0), said(1, 1, 0, tree(vec(5, 6, 1000, 8)), 0), []int{8}},
		{"Val", valued(7), valued(8), []int{1, 5, 9, 13, 17, 997}},
		{"Val of 0", valued(0), valued(1), []int{1, 5}},
		{"Val to the last one", valued(998), valued(999), []int{1, 5}},
		{"Val behind the last one", valued(999), valued(0), []int{1, 993}},
		{"no Val", said(1, 1, 0, ones(), 0), said(1, 1, 0, ones(), 0), []int{1, 5, 9, 13, 997}},
		{"the first author", by(0), by(1), []int{2, 6, 10, 14}},
		{"the second author", by(1), by(2), []int{2, 998}},
		{"the third author", by(2), by(3), []int{2, 18}},
		{"the last author", by(3), by(0), []int{2, 6, 998}},
	}
}

// turnedTheSame tells whether two of Val turn the same.
func turnedTheSame(val, other int) bool {
	return val%4 == other%4 && (val%4 != 0 || val%16 == other%16)
}

// TestWorldsTurn: in Store is what has the mark of what it is turned into, so that it
// is taken just as it is turned, and where anything else is turned it is not.
func TestWorldsTurn(t *testing.T) {
	for _, r := range turnings() {
		l, list := madeSaid(t, sample(), r.to)
		to, from := list[0], r.from
		from.Sig = to.Sig
		w := inStore(worldOf(l), 3)
		w.Store[1] = from
		for val := range 16 {
			dev, told := val%4, impl.PlSig
			want := w
			if turnedTheSame(val, r.vals[0]) {
				told, want = impl.PlTaken, modelWithDevs(w, device(dev, to.Tree, to))
			} else if val%4 == 0 && from.Tree.Vec[val/4] == 1000 {
				told = impl.PlForm
			}
			checkDone(t, r.what, w, turns(dev, 1, val), want, told)
		}
		for _, val := range r.vals {
			checkDone(t, r.what, w, turns(2, 1, val), modelWithDevs(w, device(2, to.Tree, to)), impl.PlTaken)
		}
	}
}

// TestWorldsTurnSeq: what is one behind is taken behind a head alone, whose body is
// at the place that Prev says.
func TestWorldsTurnSeq(t *testing.T) {
	for _, val := range []int{3, 7, 11, 15, 999} {
		for at := range 3 {
			first, l := said(2, 1, 0, ones(), at+2), nonces(at)
			l.L = append(l.L, bodyTerm(first), key(2), sign(at+1, at))
			l, list := madeSaid(t, l, said(2, 2, at+1, ones(), 0), said(2, 2, 1, ones(), 0))
			w := worldOf(l, device(0, ones(), first))
			w.Store = []impl.Manifest{said(2, 1, 0, ones(), list[at/2].Sig)}
			want := modelWithDevs(w, device(0, ones(), list[0]))
			if at == 0 {
				checkDone(t, "Prev is 1 where it was 0", w, turns(0, 0, val), want, impl.PlTaken)
			} else {
				checkDone(t, "Prev is 1 alone", w, turns(0, 0, val), w, []int{0, impl.PlSig, impl.PlGap}[at])
			}
			next, list := madeSaid(t, l, said(2, 6, 9, ones(), 0))
			next, third := madeSaid(t, next, said(2, 7, impl.Body(next, list[0])+1, ones(), 0))
			w = worldOf(next, device(0, ones(), list[0]))
			w.Store = []impl.Manifest{said(2, 6, third[0].Prev, ones(), third[0].Sig)}
			checkDone(t, "Prev stays where it was not 0", w, turns(0, 0, val), modelWithDevs(w, device(0, ones(), third[0])), impl.PlTaken)
		}
	}
}

// turnedFormless tells whether what has as much as may be of Seq, and of the deeds of
// the first device and the third, is not ManifestOk when it is turned.
func turnedFormless(val int) bool {
	return val%4 == 3 || val%16 == 0 || val%16 == 8
}

// TestWorldsTurnForm: what would not be ManifestOk when it is turned is not pulled for
// that, and not for its mark or an alarm.
func TestWorldsTurnForm(t *testing.T) {
	l, h, f := fourSaid(t)
	l, list := madeSaid(t, l, said(3, 100, 7, treeOf(vec(1000, 999, 1000, 999), wrote("x", 999, 0, 1)), 0))
	w := worldOf(l, modelWarned(fresh(1), h[3], f[3]))
	w.Store = append(h, list...)
	for val := range 64 {
		checkDone(t, "in alarm", w, turns(1, val%4, val), w, impl.PlAlarm)
		calm, alarm := impl.PlSig, impl.PlAlarm
		if turnedFormless(val) {
			calm, alarm = impl.PlForm, impl.PlForm
		}
		checkDone(t, "at the limits", w, turns(2, 4, val), w, calm)
		checkDone(t, "at the limits, in alarm", w, turns(1, 4, val), w, alarm)
	}
}

// TestWorldsTurnFork: what the relay turns may be a fork, if it was signed.
func TestWorldsTurnFork(t *testing.T) {
	l, h, f := fourSaid(t)
	w := worldOf(l, device(2, ones(), h...))
	turned := f[1]
	turned.Tree = ownTree(turned.Tree)
	turned.Tree.L[0].Val--
	w.Store = []impl.Manifest{turned}
	checkDone(t, "as it is", w, pulls(2, 0), w, impl.PlSig)
	checkDone(t, "turned", w, turns(2, 0, 1), modelWithDevs(w, modelWarned(w.Devs[2], h[1], f[1])), impl.PlFork)
}

func TestWorldsMeet(t *testing.T) {
	l, h, f := fourSaid(t)
	for dev := range 4 {
		for at := range 4 {
			if at == dev {
				continue
			}
			mine, theirs := device(dev, ones(), h[2]), device(at, ones(), f[1], f[2])
			w := worldOf(l, mine, theirs)
			both := modelWithDevs(w, modelWarned(mine, h[2], f[2]), modelWarned(theirs, h[2], f[2]))
			checkDone(t, "unlike things", w, meets(dev, at), both, 1)
			about := modelWithDevs(w, modelWarned(mine, f[2], h[2]), modelWarned(theirs, f[2], h[2]))
			checkDone(t, "unlike things, turned about", w, meets(at, dev), about, 1)
			checkDone(t, "again", both, meets(at, dev), both, 1)
			for other := range 4 {
				if other != dev && other != at {
					checkDone(t, "with another one", w, meets(dev, other), w, 0)
				}
			}
			one := modelWithDevs(w, modelWarned(mine, h[3], f[3]))
			checkDone(t, "one was in alarm", one, meets(dev, at), modelWithDevs(one, modelWarned(theirs, h[2], f[2])), 1)
			checkDone(t, "nobody has anything", worldOf(l), meets(dev, at), worldOf(l), 0)
		}
	}
}

// checkLeaks fails unless the relay says want in the name of its author, but for the
// mark.
func checkLeaks(t *testing.T, what string, w impl.World, a impl.Act, want impl.Manifest) {
	t.Helper()
	l, list := madeSaid(t, w.Ledger, want)
	after := modelWithSaid(w, l, list[0])
	after.Leaked = slices.Clone(w.Leaked)
	after.Leaked[want.Author] = true
	checkDone(t, what, w, a, after, 0)
}

// TestWorldsLeak: what is said is beside the last one with the greatest Seq of Dev in
// Store, signed or not.
func TestWorldsLeak(t *testing.T) {
	mine := func(seq, prev, val int) impl.Manifest {
		return said(1, seq, prev, treeOf(vec(2, val, 0, 3), wrote("x", val, 1, val), wrote("y", 6, 0, 2)), 0)
	}
	leak := func(seq, prev, val int) impl.Manifest {
		return said(1, seq, prev, treeOf(vec(2, val+1, 0, 3), wrote("x", 500, 1, val+1), wrote("y", 6, 0, 2)), 0)
	}
	theirs := said(2, 90, 7, treeOf(vec(0, 0, 9, 0), wrote("x", 1, 2, 3)), 0)
	first := said(1, 1, 0, treeOf(vec(0, 1, 0, 0), wrote("x", 500, 1, 1)), 0)
	rows := []struct {
		what  string
		store []impl.Manifest
		want  impl.Manifest
	}{
		{"nothing in Store", nil, first},
		{"another's alone", []impl.Manifest{theirs}, first},
		{"one", []impl.Manifest{mine(1, 0, 4)}, leak(1, 0, 4)},
		{"one, and another's", []impl.Manifest{theirs, mine(1, 0, 4), theirs}, leak(1, 0, 4)},
		{"one of a greater Seq", []impl.Manifest{mine(50, 9, 4)}, leak(50, 9, 4)},
		{"the last Seq", []impl.Manifest{mine(100, 400, 4)}, leak(100, 400, 4)},
		{"several", []impl.Manifest{mine(1, 0, 4), mine(2, 8, 5), mine(3, 9, 6)}, leak(3, 9, 6)},
		{"several, turned about", []impl.Manifest{mine(3, 9, 6), mine(2, 8, 5), mine(1, 0, 4)}, leak(3, 9, 6)},
		{"the greatest in the middle", []impl.Manifest{mine(1, 0, 4), mine(3, 9, 6), theirs, mine(2, 8, 5)}, leak(3, 9, 6)},
		{"two of the greatest", []impl.Manifest{mine(1, 0, 4), mine(3, 9, 6), mine(3, 7, 8)}, leak(3, 7, 8)},
		{"two of the greatest, turned about", []impl.Manifest{mine(3, 7, 8), mine(3, 9, 6), mine(1, 0, 4)}, leak(3, 9, 6)},
		{"three of the greatest, others between", []impl.Manifest{mine(3, 7, 8), mine(2, 9, 6), mine(3, 5, 2), theirs, mine(3, 6, 3), mine(1, 0, 9)}, leak(3, 6, 3)},
		{"two of the first Seq", []impl.Manifest{mine(1, 0, 6), mine(1, 0, 4)}, leak(1, 0, 4)},
	}
	for _, r := range rows {
		for _, signs := range []bool{false, true} {
			l, store := sample(), r.store
			if signs {
				l, store = madeSaid(t, l, store...)
			}
			w := worldOf(l)
			w.Store = store
			checkLeaks(t, r.what, w, leaks(1, "x", 500), r.want)
			l, _ = madeSaid(t, l, r.want)
			w.Ledger = l
			checkLeaks(t, r.what+", it is said already", w, leaks(1, "x", 500), r.want)
		}
	}
}

// TestWorldsLeakTurned: one in Store that is turned has no right mark, and counts.
func TestWorldsLeakTurned(t *testing.T) {
	l, h, _ := fourSaid(t)
	turned := h[1]
	turned.Seq, turned.Prev, turned.Tree = 7, 300, treeOf(vec(9, 9, 9, 9), wrote("q", 1, 0, 1))
	for _, d := range []impl.Device{fresh(1), device(1, ones(), h...)} {
		w := worldOf(l, d)
		w.Store = []impl.Manifest{h[1], turned, h[0]}
		checkLeaks(t, "a turned one", w, leaks(1, "b", 2), said(1, 7, 300, treeOf(vec(9, 10, 9, 9), wrote("b", 2, 1, 10), wrote("q", 1, 0, 1)), 0))
		w.Store[1].Author = 2
		checkLeaks(t, "another's turned one", w, leaks(1, "b", 2), said(1, 1, 0, treeOf(vec(0, 2, 0, 0), wrote("b", 2, 1, 2), wrote("x", 1, 1, 1)), 0))
	}
	for dev := range 4 {
		for leaked := range 16 {
			w := worldOf(l)
			for n := range 4 {
				w.Leaked[n] = leaked>>n&1 == 1
			}
			v := vec(0, 0, 0, 0)
			v[dev] = 1
			checkLeaks(t, "others are leaked", w, leaks(dev, "b", 2), said(dev, 1, 0, treeOf(v, wrote("b", 2, dev, 1)), 0))
		}
	}
}

// TestWorldsLeakLimits: of what is written, of what may be said, of the ledger and of
// Store.
func TestWorldsLeakLimits(t *testing.T) {
	full := fullTree()
	eight := treeOf(full.Vec, full.L[:8]...)
	over := append([]impl.Entry{wrote("a", 2, 1, full.Vec[1]+1)}, full.L[1:8]...)
	v := slices.Clone(full.Vec)
	v[1]++
	stored := func(x impl.Tree) impl.World {
		w := worldOf(sample())
		w.Store = []impl.Manifest{said(1, 5, 9, x, 0)}
		return w
	}
	checkLeaks(t, "eight files", stored(eight), leaks(1, "a", 2), said(1, 5, 9, treeOf(v, over...), 0))
	cantDo(t, "nine files", stored(eight), leaks(1, "new", 2))
	seven := treeOf(full.Vec, full.L[:7]...)
	checkLeaks(t, "seven files", stored(seven), leaks(1, "z", 2), said(1, 5, 9, treeOf(v, append(full.L[:7:7], wrote("z", 2, 1, v[1]))...), 0))
	checkLeaks(t, "the last deed", stored(treeOf(vec(0, 999, 0, 0))), leaks(1, "a", 2), said(1, 5, 9, treeOf(vec(0, 1000, 0, 0), wrote("a", 2, 1, 1000)), 0))
	cantDo(t, "one deed too many", stored(treeOf(vec(0, 1000, 0, 0))), leaks(1, "a", 2))
	cantDo(t, "one deed too many, over a file", stored(treeOf(vec(0, 1000, 0, 0), wrote("a", 2, 1, 1000))), leaks(1, "a", 2))
	checkLeaks(t, "others' last deeds", stored(treeOf(vec(1000, 0, 1000, 1000))), leaks(1, "a", 2), said(1, 5, 9, treeOf(vec(1000, 1, 1000, 1000), wrote("a", 2, 1, 1)), 0))
	first := said(0, 1, 0, treeOf(vec(1, 0, 0, 0), wrote("a", 2, 0, 1)), 0)
	checkLeaks(t, "room for terms", worldOf(nonces(396)), leaks(0, "a", 2), first)
	cantDo(t, "no room for terms", worldOf(nonces(397)), leaks(0, "a", 2))
	l, _ := madeSaid(t, nonces(394), first)
	cantDo(t, "no room for terms, though it is there", worldOf(l), leaks(0, "a", 2))
	for count := range 100 {
		checkLeaks(t, "room in Store", inStore(worldOf(sample()), count), leaks(0, "a", 2), first)
	}
	for dev := range 4 {
		cantDo(t, "no room in Store", inStore(worldOf(sample()), 100), leaks(dev, "a", 2))
	}
}

// TestWorldsAlarm has each act of a device in alarm.
func TestWorldsAlarm(t *testing.T) {
	l, h, f := fourSaid(t)
	for dev := range 4 {
		for _, d := range []impl.Device{fresh(dev), device(dev, treeOf(vec(1, 1, 1, 1), wrote("x", 0, 0, 1)), h...)} {
			w := worldOf(l, modelWarned(d, h[1], f[1]), device((dev+1)%4, ones(), f...))
			w.Store = append(slices.Clone(h), f...)
			cantDo(t, "edit", w, edits(dev, "x", 5))
			cantDo(t, "delete", w, drops(dev, "x"))
			cantDo(t, "push", w, pushes(dev))
			for at := range w.Store {
				checkDone(t, "pull", w, pulls(dev, at), w, impl.PlAlarm)
				checkDone(t, "turn", w, turns(dev, at, at), w, impl.PlAlarm)
			}
			checkDone(t, "meet", w, meets(dev, (dev+2)%4), w, 0)
			told, after := 0, w
			if len(d.Heads) > 0 {
				told, after = 1, modelWithDevs(w, modelWarned(w.Devs[(dev+1)%4], h[0], f[0]))
			}
			checkDone(t, "meet with unlike things", w, meets(dev, (dev+1)%4), after, told)
			v := vec(0, 0, 0, 0)
			v[dev] = 2
			leak := said(dev, 1, 0, treeOf(v, wrote("q", 5, dev, 2), wrote("y", 4+dev, dev, 1)), 0)
			checkLeaks(t, "leak", w, leaks(dev, "q", 5), leak)
		}
	}
}
