package tests

import (
	"slices"
	"testing"

	"loop.example/g00642/impl"
)

// roomyList has more manifests behind its length, and room in each of them.
func roomyList(list []impl.Manifest) []impl.Manifest {
	var out []impl.Manifest
	for _, m := range list {
		out = append(out, roomySaid(m))
	}
	for n := range 3 {
		out = append(out, roomySaid(said(3, 1+n, 9*n, impl.TreeNew(), n)))
	}
	return out[:len(list)]
}

func roomyDevice(d impl.Device) impl.Device {
	d.Tree, d.Heads, d.Proof = roomyTree(d.Tree), roomyList(d.Heads), roomyList(d.Proof)
	return d
}

func roomyDeviceAsk(q deviceAsk) deviceAsk {
	q.l, q.d, q.e, q.name = roomy(q.l), roomyDevice(q.d), roomyDevice(q.e), roomyText(q.name)
	q.m, q.ms = roomySaid(q.m), roomyList(q.ms)
	return q
}

// memoryDevices has those that may be, in alarm and not, and those that may not; and
// what may be pulled: each taken by one of them at least, a fork, an old one.
func memoryDevices(t *testing.T) (impl.Ledger, []impl.Device, []impl.Manifest) {
	t.Helper()
	l, h, f := fourSaid(t)
	l, more := madeSaid(t, l, said(1, 2, 5, treeOf(vec(2, 1, 0, 0), wrote("y", 3, 0, 2)), 0), said(2, 1, 0, oneMemory(), 0))
	some := treeOf(vec(1, 1, 0, 1), wrote("x", 0, 0, 1), wrote("x", 1, 1, 1))
	devices := []impl.Device{
		fresh(0), device(0, some, h[0], h[1]), device(1, some, f[1], h[3]), device(2, oneMemory()), device(3, fullTree(), h...),
		modelWarned(device(1, some, h[0], h[1]), h[1], f[1]), modelWarned(fresh(2), f[3], h[3]),
		{}, device(4, some, h[0]), device(0, some, h[2]), {Tree: some, Heads: h[:1], Alarm: true, Proof: h[:1]}, device(0, impl.Tree{}, h[0], impl.Manifest{}),
	}
	return l, devices, append(more, h[2], h[1], f[1], said(1, 2, 5, impl.TreeNew(), 3), impl.Manifest{})
}

func memoryDeviceAsks(t *testing.T) []deviceAsk {
	t.Helper()
	var out []deviceAsk
	l, devices, list := memoryDevices(t)
	long := slices.Repeat(list[:1], 101)
	for _, l := range []impl.Ledger{l, {}, ledger(append(l.L[:len(l.L):len(l.L)], nonce(1000))...)} {
		for n, d := range devices {
			for i, m := range list {
				e := devices[(n+i)%len(devices)]
				ms := [][]impl.Manifest{list, nil, list[i : i+1], long}[i%4]
				out = append(out, deviceAsk{l: l, d: d, e: e, m: m, ms: ms, name: []byte("xyz")[i%3 : i%3+1], val: 5, author: i%5 - 1})
			}
		}
	}
	return out
}

// TestDevicesMemory: no function writes into an argument or the room behind it, nor
// reads that room, nor hands any of it out, nor gives one memory twice.
func TestDevicesMemory(t *testing.T) {
	for _, plain := range memoryDeviceAsks(t) {
		checkDevicesMemory(t, roomyDeviceAsk(plain), plain)
	}
}

func (q deviceAsk) arguments() []any { return all(q.l, q.d, q.e, q.m, q.ms, q.name) }

// checkDevicesMemory asks for the same with room behind, without it, and twice.
func checkDevicesMemory(t *testing.T, q, plain deviceAsk) {
	t.Helper()
	arguments := append(q.arguments(), plain.arguments()...)
	before := shownWithRoom(arguments...)
	for _, f := range deviceCalls() {
		checkMemory(t, f.name, func() []any { return f.ask(q) }, func() []any { return f.ask(plain) }, arguments)
	}
	check(t, shownWithRoom(arguments...), before, "something is written into an argument")
}

// TestDevicesRoomBehind: more heads, and what else a proof would need, stand behind
// the lengths of the lists, and what is to be pushed behind that of the ledger.
func TestDevicesRoomBehind(t *testing.T) {
	l, h, f := fourSaid(t)
	for count := range 5 {
		d := device(1, ones(), h[:count]...)
		d.Proof = []impl.Manifest{h[2], f[2]}[:0]
		got, fork := impl.Pull(l, d, f[3])
		want, told := modelOf(l).pull(device(1, ones(), slices.Clone(h[:count])...), f[3])
		check(t, shown(got, fork), shown(want, told), "heads behind the length", count)
		check(t, shown(impl.Known(d, 3)), shown(count/4), "a head behind the length", count)
	}
	for count := range 3 {
		d := device(1, ones())
		d.Alarm, d.Proof = true, []impl.Manifest{h[2], f[2]}[:count]
		check(t, shown(impl.DeviceOk(l, d)), shown(count == 2), "a proof behind the length", count)
	}
	whole, _, _, _ := impl.Push(l, device(1, ones(), h...))
	for cut := len(l.L); cut <= len(whole.L); cut++ {
		cutL := impl.Ledger{L: whole.L[:cut]}
		before := shownWithRoom(cutL)
		after, d, m, ok := impl.Push(cutL, device(1, ones(), h...))
		check(t, shown(after, m.Sig, ok), shown(whole, len(whole.L)-1, true), "a ledger with the same behind", cut)
		check(t, shownWithRoom(cutL), before, "the room behind the ledger")
		checkOwnMemory(t, "Push", all(after, d, m), all(cutL))
	}
}

// TestDevicesOneForAll: one memory may stand in all arguments: a device meets itself,
// or pulls its own head or what is in its proof, with a name of its own tree.
func TestDevicesOneForAll(t *testing.T) {
	l, devices, _ := memoryDevices(t)
	for _, plain := range devices {
		d := roomyDevice(plain)
		ms, plainMs := append(d.Heads, d.Proof...), slices.Concat(plain.Heads, plain.Proof)
		for n := range ms {
			q := deviceAsk{l: l, d: d, e: d, m: ms[n], ms: ms, name: []byte("x"), val: n, author: n}
			p := deviceAsk{l: l, d: plain, e: plain, m: plainMs[n], ms: plainMs, name: []byte("x"), val: n, author: n}
			if len(d.Tree.L) > n {
				q.name, p.name = d.Tree.L[n].Name, plain.Tree.L[n].Name
			}
			checkDevicesMemory(t, q, p)
			checkDevices(t, q)
		}
	}
}

// TestDevicesHeadsInProof: heads stand in the same memory as the proof and as what is
// pulled; the answer has each for itself.
func TestDevicesHeadsInProof(t *testing.T) {
	l, h, f := fourSaid(t)
	h[2].Tree = f[1].Tree
	h[3].Tree.Vec = h[1].Tree.Vec
	d := device(0, ones(), h[1])
	for _, d := range []impl.Device{d, modelWarned(d, h[1], f[1])} {
		q := deviceAsk{l: l, d: d, e: device(3, f[1].Tree, f[1]), m: f[1], ms: []impl.Manifest{f[1], h[1], f[1]}, name: h[1].Tree.L[0].Name, author: 1}
		checkDevicesMemory(t, roomyDeviceAsk(q), q)
		checkDevices(t, q)
	}
	got, told := impl.Pull(l, d, f[1])
	check(t, shown(len(got.Proof), told), "2;4;", "the head stands in the proof")
	checkOwnMemory(t, "Pull", all(got), all(d, f[1]))
}

func TestDevicesAnswersAreOwn(t *testing.T) {
	freshAsk := func(n int) deviceAsk {
		l, h, f := fourSaid(t)
		name := []byte("x")
		return []deviceAsk{
			{l, device(1, treeOf(vec(1, 1, 1, 1), wrote("x", 3, 2, 1)), h[1], h[2]), device(2, ones(), f[1]), h[0], h[2:], name, 5, 1},
			{l, device(1, ones(), h[1]), device(2, ones(), f[1]), f[1], f, name, 5, 1},
			{l, modelWarned(device(1, ones(), h[1]), h[3], f[3]), device(2, ones(), f[1]), h[2], f, name, 5, 1},
		}[n]
	}
	for _, f := range deviceCalls() {
		for n := range 3 {
			checkAnswersAreOwn(t, f.name, func() deviceAsk { return freshAsk(n) }, f.ask, deviceAsk.arguments)
		}
	}
}

func TestDevicesNothingIsKept(t *testing.T) {
	checkNothingIsKept(t, memoryDeviceAsks(t), func(q deviceAsk) string {
		out := ""
		for _, f := range deviceCalls() {
			out += shown(f.ask(q)...)
		}
		return out
	})
}
