package tests

import (
	"slices"
	"testing"

	"loop.example/g00642/impl"
)

// roomyWorld has more behind each of its lists: a device, manifests, and one that is
// leaked.
func roomyWorld(w impl.World) impl.World {
	var devs []impl.Device
	for _, d := range w.Devs {
		devs = append(devs, roomyDevice(d))
	}
	devs = append(devs, roomyDevice(device(len(devs), ones())), roomyDevice(fresh(0)))
	leaked := append(slices.Clone(w.Leaked), true, false, true)
	return impl.World{Ledger: roomy(w.Ledger), Devs: devs[:len(w.Devs)], Store: roomyList(w.Store), Leaked: leaked[:len(w.Leaked)]}
}

func roomyAct(a impl.Act) impl.Act {
	a.Name = roomyText(a.Name)
	return a
}

// roomyActs has more acts behind, one of them not ActOk.
func roomyActs(acts []impl.Act) []impl.Act {
	var out []impl.Act
	for _, a := range acts {
		out = append(out, roomyAct(a))
	}
	out = append(out, roomyAct(edits(0, "r", 3)), impl.Act{Kind: 9})
	return out[:len(acts)]
}

func roomyWorldAsk(q worldAsk) worldAsk {
	return worldAsk{roomyWorld(q.w), roomyAct(q.a), roomyActs(q.acts), q.n}
}

// memoryWorlds has those that may be, with the same memory at several places and
// without, and those that may not.
func memoryWorlds(t *testing.T) []impl.World {
	t.Helper()
	l, h, f := fourSaid(t)
	some := treeOf(vec(1, 1, 1, 1), wrote("x", 0, 0, 1), wrote("x", 1, 1, 1))
	unlike := worldOf(l, device(0, some, h...), device(1, some, f[1]), device(2, fullTree()), modelWarned(device(3, some, h[3]), h[3], f[3]))
	unlike.Store = append(slices.Clone(h), f...)
	unlike.Leaked = []bool{false, true, false, true}
	bad := storyWorld()
	bad.Devs = bad.Devs[:3]
	leaked := storyWorld()
	leaked.Leaked = nil
	return []impl.World{modelWorldNew(), storyWorld(), unlike, inStore(storyWorld(), 100), worldOf(nonces(397)), bad, leaked, inStore(unlike, 101), {}}
}

// memoryWorldAsks asks large worlds for what one device does alone.
func memoryWorldAsks(t *testing.T) []worldAsk {
	t.Helper()
	var out []worldAsk
	for n, w := range memoryWorlds(t) {
		for dev := range 4 {
			if len(w.Ledger.L)+len(w.Store) > 50 && dev != n%4 {
				continue
			}
			acts := oneOfEach(dev)
			acts = append(acts, pulls(dev, 2), edits(dev, "new", 1), turns(dev, 1, 1), impl.Act{Kind: impl.AcPush, Name: []byte("y")})
			for i, a := range acts {
				out = append(out, worldAsk{w: w, a: a, acts: acts[:(i+n)%len(acts)], n: (dev+i)%6 - 1})
			}
		}
	}
	return out
}

// TestWorldsMemory: no function writes into an argument or the room behind it, nor
// reads that room, nor hands any of it out, nor gives one memory twice.
func TestWorldsMemory(t *testing.T) {
	for _, plain := range memoryWorldAsks(t) {
		checkWorldsMemory(t, roomyWorldAsk(plain), plain)
	}
}

func (q worldAsk) arguments() []any { return all(q.w, q.a, q.acts) }

// checkWorldsMemory asks for the same with room behind, without it, and twice.
func checkWorldsMemory(t *testing.T, q, plain worldAsk) {
	t.Helper()
	arguments := append(q.arguments(), plain.arguments()...)
	before := shownWithRoom(arguments...)
	for _, f := range worldCalls() {
		checkMemory(t, f.name, func() []any { return f.ask(q) }, func() []any { return f.ask(plain) }, arguments)
	}
	check(t, shownWithRoom(arguments...), before, "something is written into an argument")
}

// TestWorldsRoomBehind: what a list lacks stands behind its length, and what would be
// pushed or leaked stands behind those of the ledger and of Store.
func TestWorldsRoomBehind(t *testing.T) {
	whole := storyWorld()
	for count := range 5 {
		w := whole
		w.Devs = append(slices.Clone(whole.Devs), fresh(4))[:count]
		check(t, shown(impl.WorldOk(w)), shown(count == 4), "devices behind", count)
		w = whole
		w.Leaked = append(slices.Clone(whole.Leaked), false)[:count]
		check(t, shown(impl.WorldOk(w), impl.Safe(w)), shown(count == 4, false), "Leaked behind", count)
	}
	for count := range 4 {
		w := whole
		w.Store = append(slices.Clone(whole.Store), impl.Manifest{})[:count]
		check(t, shown(impl.WorldOk(w), len(impl.Said(w, 0)), len(impl.Untaken(w, 3))), shown(true, (count+1)/2, count), "Store behind", count)
		checkDone(t, "the one behind", w, pulls(0, count), w, -1)
		acts := []impl.Act{edits(3, "x", 1), edits(3, "x", 2), edits(3, "x", 3), {Kind: 7}}
		after, told, ok := impl.Run(w, acts[:count])
		want, codes, _ := modelRun(w, slices.Clone(acts[:count]))
		check(t, shown(after, told, ok), shown(want, codes, true), "acts behind", count)
	}
	for _, a := range []impl.Act{pushes(0), pushes(3), leaks(0, "q", 1), leaks(3, "q", 1)} {
		after, told := impl.Do(whole, a)
		w := whole
		w.Ledger.L, w.Store = after.Ledger.L[:len(whole.Ledger.L)], after.Store[:len(whole.Store)]
		before := shownWithRoom(w, after)
		again, code := impl.Do(w, a)
		check(t, shown(again, code), shown(after, told), "the same behind", a)
		check(t, shownWithRoom(w, after), before, "the room behind", a)
		checkOwnMemory(t, "Do", all(again), all(w, after))
	}
}

// TestWorldsOneForAll: one memory may stand in Store and at several devices, as heads
// and in proofs, and a name in the act; the answer has each for itself.
func TestWorldsOneForAll(t *testing.T) {
	l, h, f := fourSaid(t)
	list := append(slices.Clone(h), f...)
	w := worldOf(l)
	for n := range 4 {
		w.Devs[n] = device(n, f[1].Tree, f[1:2]...)
		w.Devs[n].Alarm = n == 3
	}
	w.Devs[3].Proof = list[1:2:2]
	w.Devs[3].Proof = append(w.Devs[3].Proof, f[1])
	w.Store = list
	name := f[1].Tree.L[0].Name
	check(t, shown(impl.WorldOk(w)), "true;", "one memory")
	for dev := range 4 {
		acts := oneOfEach(dev)
		for n := range acts {
			if len(acts[n].Name) > 0 {
				acts[n].Name = name
			}
		}
		acts = append(acts, pulls(dev, 1), pulls(dev, 0), turns(dev, 4, 5), meets(dev, (dev+2)%4))
		for n, a := range acts {
			q := worldAsk{w: w, a: a, acts: acts[n:], n: dev}
			checkWorldsMemory(t, roomyWorldAsk(q), q)
			checkWorlds(t, q)
		}
	}
}

// TestWorldsAsItWas: where an act can't be done, or changes nothing, w is handed out in
// memory of its own, too.
func TestWorldsAsItWas(t *testing.T) {
	for _, a := range []impl.Act{pulls(3, 3), edits(1, "x", 1), drops(3, "x"), pushes(2), meets(3, 0), pulls(0, 0), turns(3, 0, 3), turns(1, 0, 0)} {
		w := storyWorld()
		for _, ask := range []func() impl.World{
			func() impl.World { after, _ := impl.Do(w, a); return after },
			func() impl.World { after, _, _ := impl.Run(w, []impl.Act{a}); return after },
			func() impl.World { after, _, _ := impl.Run(w, nil); return after },
		} {
			after := ask()
			check(t, shown(after), shown(storyWorld()), "w as it was", a)
			checkOwnMemory(t, "w as it was", all(after), all(w, a))
			overwrite(after)
			check(t, shown(w), shown(storyWorld()), "the argument", a)
		}
	}
}

func TestWorldsAnswersAreOwn(t *testing.T) {
	freshAsk := func(n int) worldAsk {
		acts, _ := story()
		q := worldAsk{w: storyWorld(), a: append(oneOfEach(3), oneOfEach(0)...)[n], acts: acts, n: n % 4}
		if n%3 == 0 {
			q.w = modelWorldNew()
		}
		return q
	}
	for _, f := range worldCalls() {
		for n := range 14 {
			checkAnswersAreOwn(t, f.name, func() worldAsk { return freshAsk(n) }, f.ask, worldAsk.arguments)
		}
	}
}

func TestWorldsNothingIsKept(t *testing.T) {
	checkNothingIsKept(t, memoryWorldAsks(t), func(q worldAsk) string {
		out := ""
		for _, f := range worldCalls() {
			out += shown(f.ask(q)...)
		}
		return out
	})
}
