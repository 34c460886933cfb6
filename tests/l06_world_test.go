package tests

import (
	"slices"
	"testing"

	"loop.example/g00642/impl"
)

// story is a run with each kind of act, and what each of them tells.
func story() ([]impl.Act, []int) {
	acts := []impl.Act{edits(0, "x", 5), pushes(0), pulls(1, 0), turns(2, 0, 1), edits(1, "x", 7), pushes(1), leaks(0, "z", 9),
		pulls(2, 2), meets(1, 2), meets(3, 0), drops(0, "x"), pulls(3, 3)}
	return acts, []int{0, 0, 0, impl.PlSig, 0, 0, 0, 0, 1, 0, 0, -1}
}

// storyWorld is what comes of the story, written down by hand.
func storyWorld() impl.World {
	first := "\x00\x01\x00\x00" + "\x00\x01\x00\x00\x00\x00\x00\x00" + "\x01" + "\x01x\x00\x05\x00\x00\x01"
	other := "\x01\x01\x00\x00" + "\x00\x01\x00\x01\x00\x00\x00\x00" + "\x01" + "\x01x\x00\x07\x01\x00\x01"
	leak := "\x00\x01\x00\x00" + "\x00\x02\x00\x00\x00\x00\x00\x00" + "\x02" + "\x01x\x00\x05\x00\x00\x01" + "\x01z\x00\x09\x00\x00\x02"
	m := said(0, 1, 0, treeOf(vec(1, 0, 0, 0), wrote("x", 5, 0, 1)), 2)
	n := said(1, 1, 0, treeOf(vec(1, 1, 0, 0), wrote("x", 7, 1, 1)), 5)
	o := said(0, 1, 0, treeOf(vec(2, 0, 0, 0), wrote("x", 5, 0, 1), wrote("z", 9, 0, 2)), 7)
	proof := []impl.Manifest{m, o}
	return impl.World{
		Ledger: ledger(key(0), text(first), sign(0, 1), key(1), text(other), sign(3, 4), text(leak), sign(0, 6)),
		Devs: []impl.Device{
			{Id: 0, Tree: treeOf(vec(1, 0, 0, 0)), Heads: []impl.Manifest{m}},
			{Id: 1, Tree: n.Tree, Heads: []impl.Manifest{m, n}, Alarm: true, Proof: proof},
			{Id: 2, Tree: o.Tree, Heads: []impl.Manifest{o}, Alarm: true, Proof: proof},
			{Id: 3, Tree: treeOf(vec(0, 0, 0, 0))},
		},
		Store:  []impl.Manifest{m, n, o},
		Leaked: []bool{true, false, false, false},
	}
}

// TestWorldsStory has every answer written down by hand.
func TestWorldsStory(t *testing.T) {
	acts, told := story()
	w, codes, ok := impl.Run(impl.WorldNew(), acts)
	check(t, shown(w, codes, ok), shown(storyWorld(), told, true), "Run")
	w = impl.WorldNew()
	for n, a := range acts {
		next, code := impl.Do(w, a)
		check(t, shown(code, impl.WorldOk(next)), shown(told[n], true), "Do", a)
		w = next
	}
	check(t, shown(w), shown(storyWorld()), "Do, one over the other")
	check(t, string(impl.WorldText(w)), "device 0\ndevice 1 x=7 alarm\ndevice 2 x=5 z=9 alarm\ndevice 3\n", "WorldText")
	check(t, shown(impl.Alarms(w), impl.Alike(w), impl.Safe(w)), "2;false;false;", "Alarms, Alike, Safe")
	check(t, shown(impl.Said(w, 0), impl.Said(w, 1), impl.Said(w, 2)), "[0 2];[1];[];", "Said")
	check(t, shown(impl.Untaken(w, 0), impl.Untaken(w, 1), impl.Untaken(w, 2), impl.Untaken(w, 3)), "[1];[];[];[0 1 2];", "Untaken")
}

func TestWorldsNew(t *testing.T) {
	none := treeOf(vec(0, 0, 0, 0))
	want := impl.World{Devs: []impl.Device{{Tree: none}, {Id: 1, Tree: none}, {Id: 2, Tree: none}, {Id: 3, Tree: none}}, Leaked: []bool{false, false, false, false}}
	w := impl.WorldNew()
	check(t, shown(w), shown(want), "WorldNew")
	check(t, shown(impl.WorldOk(w), impl.Alike(w), impl.Alarms(w), impl.Safe(w)), "true;true;0;true;", "WorldNew")
	check(t, string(impl.WorldText(w)), "device 0\ndevice 1\ndevice 2\ndevice 3\n", "WorldText")
	check(t, shown(impl.AcEdit, impl.AcDelete, impl.AcPush, impl.AcPull, impl.AcTurn, impl.AcMeet, impl.AcLeak), "0;1;2;3;4;5;6;", "the kinds")
}

// inStore has so many in Store, none of them signed.
func inStore(w impl.World, count int) impl.World {
	w.Store = slices.Repeat([]impl.Manifest{saidX(0)}, count)
	return w
}

func TestWorldsThatMayBe(t *testing.T) {
	l, h, f := fourSaid(t)
	empty := impl.World{Ledger: impl.Ledger{L: []impl.Term{}}, Devs: modelWorldNew().Devs, Store: []impl.Manifest{}, Leaked: make([]bool, 4)}
	leaked := worldOf(l)
	leaked.Leaked = []bool{true, true, true, true}
	good := map[string]impl.World{
		"new":                       modelWorldNew(),
		"empty lists":               empty,
		"the story":                 storyWorld(),
		"a full ledger":             worldOf(nonces(400)),
		"one in Store":              inStore(worldOf(l), 1),
		"99 in Store":               inStore(worldOf(l), 99),
		"100 in Store":              inStore(worldOf(l), 100),
		"all leaked":                leaked,
		"heads and trees":           worldOf(l, device(0, fullTree(), h...), device(3, manyCopies())),
		"unlike heads, not met yet": worldOf(l, device(1, ones(), h...), device(2, ones(), f...)),
		"one in alarm":              worldOf(l, modelWarned(fresh(2), h[1], f[1])),
		"all in alarm":              worldOf(l, modelWarned(fresh(0), h[1], f[1]), modelWarned(fresh(1), f[3], h[3]), modelWarned(fresh(2), h[1], f[1]), modelWarned(fresh(3), h[3], f[3])),
	}
	for what, w := range good {
		check(t, shown(impl.WorldOk(w)), "true;", what)
		for dev := range 4 {
			for _, a := range oneOfEach(dev) {
				checkWorlds(t, worldAsk{w: w, a: a, acts: oneOfEach(dev), n: dev})
				after, told := impl.Do(w, a)
				check(t, shown(impl.WorldOk(after), told >= -1), "true;true;", what, a)
			}
		}
	}
}

func TestWorldsThatMayNotBe(t *testing.T) {
	story, x := storyWorld(), saidX(0)
	for what, devs := range map[string][]impl.Device{
		"no devices":        nil,
		"one fewer":         story.Devs[:3],
		"one more":          append(slices.Clone(story.Devs), fresh(3)),
		"one more, with Id": append(slices.Clone(story.Devs), fresh(4)),
		"many":              slices.Repeat(story.Devs, 300),
		"two turned about":  {story.Devs[0], story.Devs[2], story.Devs[1], story.Devs[3]},
		"moved by one":      {story.Devs[1], story.Devs[2], story.Devs[3], story.Devs[0]},
		"one twice":         {story.Devs[0], story.Devs[1], story.Devs[1], story.Devs[3]},
		"the first twice":   {fresh(0), fresh(0), fresh(2), fresh(3)},
		"zero values":       make([]impl.Device, 4),
	} {
		w := story
		w.Devs = devs
		refusesWorld(t, what, w)
	}
	for place := range 4 {
		for _, id := range append([]int{-1, 0, 1, 2, 3, 4}, farNumbers...) {
			w := modelWithDevs(story)
			if w.Devs[place].Id = id; id != place {
				refusesWorld(t, "another Id", w)
			}
		}
	}
	for _, count := range []int{0, 1, 3, 5, 1000} {
		w := story
		w.Leaked = make([]bool, count)
		refusesWorld(t, "Leaked", w)
	}
	refusesWorld(t, "one too many in Store", inStore(story, 101))
	refusesWorld(t, "many too many in Store", inStore(story, 5000))
	for _, at := range []int{0, 1, 50, 99} {
		for what, turn := range map[string]func(m *impl.Manifest){
			"the zero value": func(m *impl.Manifest) { *m = impl.Manifest{} },
			"Seq":            func(m *impl.Manifest) { m.Seq = 101 },
			"Sig":            func(m *impl.Manifest) { m.Sig = 400 },
			"nine files":     func(m *impl.Manifest) { m.Tree = treeOf(fullTree().Vec, fullTree().L[:9]...) },
		} {
			w, bad := inStore(story, 100), x
			turn(&bad)
			w.Store[at] = bad
			refusesWorld(t, what+" in Store", w)
		}
	}
	refusesWorld(t, "the zero value", impl.World{})
}

// TestWorldsLedgers: the ledger is not LedgerOk, or it is, and what devices have is
// not signed in it.
func TestWorldsLedgers(t *testing.T) {
	w := storyWorld()
	for what, l := range map[string]impl.Ledger{
		"no ledger":        {},
		"the mark is gone": {L: w.Ledger.L[:7]},
		"another one":      sample(),
		"one twice":        ledger(append(slices.Clone(w.Ledger.L), key(0))...),
		"one that is none": ledger(append(slices.Clone(w.Ledger.L), nonce(1000))...),
		"one too many":     ledger(append(slices.Clone(w.Ledger.L), nonces(393).L...)...),
	} {
		bad := w
		bad.Ledger = l
		refusesWorld(t, what, bad)
	}
	w.Ledger = ledger(append(slices.Clone(w.Ledger.L), nonces(392).L...)...)
	check(t, shown(impl.WorldOk(w)), "true;", "as many as may be")
}

func TestWorldsRun(t *testing.T) {
	w := storyWorld()
	for _, none := range [][]impl.Act{nil, {}} {
		after, told, ok := impl.Run(w, none)
		check(t, shown(after, told, ok), shown(w, []int{}, true), "no act")
	}
	var acts []impl.Act
	for n := range 101 {
		acts = append(acts, edits(3, "x", n))
	}
	after, told, ok := impl.Run(w, acts[:100])
	last := device(3, treeOf(vec(0, 0, 0, 100), wrote("x", 99, 3, 100)))
	check(t, shown(after, told, ok), shown(modelWithDevs(w, last), make([]int, 100), true), "as many acts as may be")
	for _, many := range [][]impl.Act{acts, slices.Repeat(acts, 30), slices.Repeat([]impl.Act{pulls(3, 9)}, 101)} {
		after, told, ok := impl.Run(w, many)
		check(t, shown(after, told, ok), shown(impl.World{}, []int{}, false), "too many acts")
	}
	for at := range 100 {
		bad := slices.Clone(acts[:100])
		bad[at].At = 1
		after, told, ok := impl.Run(w, bad)
		check(t, shown(after, told, ok), shown(impl.World{}, []int{}, false), "one that is not ActOk", at)
	}
	for _, bad := range []impl.World{{}, inStore(w, 101)} {
		for _, some := range [][]impl.Act{nil, acts[:1], acts[:100]} {
			after, told, ok := impl.Run(bad, some)
			check(t, shown(after, told, ok), shown(impl.World{}, []int{}, false), "no world")
		}
	}
}

// TestWorldsRunUndone: some can't be done, and what is behind them is done over what
// is ahead of them.
func TestWorldsRunUndone(t *testing.T) {
	acts := []impl.Act{drops(2, "x"), edits(2, "x", 1), pulls(3, 0), pushes(2), pushes(2), drops(2, "x"), drops(2, "x"), pushes(2),
		pulls(3, 2), pulls(3, 1), pulls(3, 0), pulls(3, 2), pulls(3, 3), pulls(3, 1), pulls(3, 2), pulls(3, 2)}
	told := []int{-1, 0, -1, 0, 0, 0, -1, 0, impl.PlGap, impl.PlGap, 0, impl.PlGap, -1, 0, 0, impl.PlOld}
	w, codes, ok := impl.Run(impl.WorldNew(), acts)
	check(t, shown(codes, ok), shown(told, true), "some can't be done")
	l, list := madeSaid(t, impl.Ledger{}, said(2, 1, 0, treeOf(vec(0, 0, 1, 0), wrote("x", 1, 2, 1)), 0))
	l, second := madeSaid(t, l, said(2, 2, 2, list[0].Tree, 0))
	l, third := madeSaid(t, l, said(2, 3, 4, treeOf(vec(0, 0, 1, 0)), 0))
	want := worldOf(l, device(2, third[0].Tree, third[0]), device(3, third[0].Tree, third[0]))
	want.Store = []impl.Manifest{list[0], second[0], third[0]}
	check(t, shown(w), shown(want), "some can't be done")
}

func TestWorldsAlike(t *testing.T) {
	l, h, f := fourSaid(t)
	some := []impl.Tree{treeOf(vec(1, 1, 1, 1), wrote("x", 3, 1, 1)), treeOf(vec(1, 1, 1, 1), wrote("x", 4, 1, 1)),
		treeOf(vec(1, 1, 1, 2), wrote("x", 3, 1, 1)), treeOf(vec(1, 1, 1, 1), wrote("y", 3, 1, 1)), treeOf(vec(1, 1, 1, 1), wrote("x", 3, 2, 1)), ones()}
	same := worldOf(l, device(0, some[0]), device(1, some[0], h...), device(2, some[0], f...), device(3, some[0], h[0]))
	check(t, shown(impl.Alike(same), impl.Alarms(same), impl.Safe(same)), "true;0;true;", "all trees are the same")
	for alarmed := range 16 {
		for _, another := range some[1:] {
			for dev := range 4 {
				w := modelWithDevs(same, device(dev, another))
				count := 0
				for n := range 4 {
					if alarmed>>n&1 == 1 {
						w.Devs[n] = modelWarned(w.Devs[n], h[1], f[1])
						count++
					}
				}
				alike := w.Devs[dev].Alarm || count == 3
				check(t, shown(impl.Alike(w), impl.Alarms(w), impl.Safe(w)), shown(alike, count, count == 0), "one is another one", alarmed, dev)
			}
		}
	}
	for n := range 4 {
		w := modelWithDevs(same)
		w.Devs[n].Tree = some[1+n]
		w.Devs[(n+1)%4].Tree = some[1+n]
		check(t, shown(impl.Alike(w)), "false;", "two and two", n)
	}
}

func TestWorldsSafe(t *testing.T) {
	l, h, f := fourSaid(t)
	for leaked := range 16 {
		w := worldOf(l, device(1, ones(), h...))
		for n := range 4 {
			w.Leaked[n] = leaked>>n&1 == 1
		}
		check(t, shown(impl.Safe(w), impl.Alarms(w)), shown(leaked == 0, 0), "leaked", leaked)
		w.Devs[2] = modelWarned(w.Devs[2], h[0], f[0])
		check(t, shown(impl.Safe(w), impl.Alarms(w)), "false;1;", "an alarm", leaked)
	}
}

// TestWorldsText: a device with no file, one with files, one with a name that two
// wrote, one in alarm, and one with all of that.
func TestWorldsText(t *testing.T) {
	l, h, f := fourSaid(t)
	two := treeOf(vec(1, 1, 1, 1), wrote("a", 0, 3, 1), wrote("x", 999, 0, 1), wrote("x", 10, 1, 1), wrote("\u00e9=", 7, 2, 1))
	w := worldOf(l, device(1, treeOf(vec(3, 0, 0, 0), wrote("b", 1, 0, 3), wrote("c", 22, 0, 2))), device(2, two), modelWarned(fresh(3), h[1], f[1]))
	check(t, string(impl.WorldText(w)), "device 0\ndevice 1 b=1 c=22\ndevice 2 a=0 x=999 x~1.1=10 \u00e9==7\ndevice 3 alarm\n", "WorldText")
	w.Devs[2] = modelWarned(w.Devs[2], h[1], f[1])
	w.Devs[0].Tree = manyCopies()
	copies := "device 0 a=5 b=1 b~1.1=2 b~2.1=7 ba=3 b\u00e9=0 c=999 c~0.2=4\n"
	check(t, string(impl.WorldText(w)), copies+"device 1 b=1 c=22\ndevice 2 a=0 x=999 x~1.1=10 \u00e9==7 alarm\ndevice 3 alarm\n", "WorldText")
}

func TestWorldsSaid(t *testing.T) {
	w := worldOf(impl.Ledger{})
	for n := range 100 {
		w.Store = append(w.Store, said(n%7%4, 1, 0, impl.TreeNew(), n))
	}
	for author := range 4 {
		var want []int
		for n := range 100 {
			if n%7%4 == author {
				want = append(want, n)
			}
		}
		check(t, shown(impl.Said(w, author)), shown(want), "Said", author)
		check(t, shown(impl.Said(modelWorldNew(), author)), "[];", "Said of nothing", author)
	}
	for _, author := range append([]int{-1, 4, 5}, farNumbers...) {
		check(t, shown(impl.Said(w, author), impl.Said(storyWorld(), author)), "[];[];", "Said by none", author)
	}
}

func TestWorldsUntaken(t *testing.T) {
	l, h, f := fourSaid(t)
	l, more := madeSaid(t, l, said(1, 2, 5, ones(), 0))
	w := worldOf(l, device(1, ones(), h[0], h[1]), device(2, ones(), f[1]), modelWarned(fresh(3), h[1], f[1]))
	w.Store = []impl.Manifest{h[0], h[1], h[2], saidX(0), more[0], f[1], f[3], h[0]}
	for dev, want := range []string{"[0 1 2 5 6 7];", "[2 4 6];", "[0 2 6 7];", "[];"} {
		check(t, shown(impl.Untaken(w, dev)), want, "Untaken", dev)
		check(t, shown(impl.Untaken(modelWorldNew(), dev)), "[];", "Untaken of nothing", dev)
	}
	for _, dev := range append([]int{-1, 4, 5}, farNumbers...) {
		check(t, shown(impl.Untaken(w, dev), impl.Untaken(impl.World{}, dev)), "[];[];", "no such device", dev)
	}
	full := inStore(worldOf(l), 100)
	full.Store[99] = h[3]
	check(t, shown(impl.Untaken(full, 2)), "[99];", "the last one")
}
