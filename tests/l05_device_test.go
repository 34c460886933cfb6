package tests

import (
	"slices"
	"strings"
	"testing"

	"loop.example/g00642/impl"
)

// fourSaid has what each device said first, by its place, and another thing that it
// said at that place, too. The body of the first thing of device n has number 3n+1.
func fourSaid(t *testing.T) (l impl.Ledger, heads, forks []impl.Manifest) {
	t.Helper()
	var list []impl.Manifest
	for n := range 8 {
		v := vec(0, 0, 0, 0)
		v[n%4] = 1
		list = append(list, said(n%4, 1, 0, treeOf(v, wrote("xy"[n/4:n/4+1], n, n%4, 1)), 0))
	}
	l, list = madeSaid(t, impl.Ledger{}, list...)
	return l, list[:4], list[4:]
}

// ones is a tree that knows of all that fourSaid says.
func ones() impl.Tree { return treeOf(vec(1, 1, 1, 1)) }

func fresh(id int) impl.Device { return device(id, impl.TreeNew()) }

// TestDevicesStory has every answer written down by hand.
func TestDevicesStory(t *testing.T) {
	first := "\x00\x01\x00\x00" + "\x00\x01\x00\x00\x00\x00\x00\x00" + "\x01" + "\x01x\x00\x05\x00\x00\x01"
	second := "\x00\x02\x00\x02" + "\x00\x02\x00\x00\x00\x00\x00\x00" + "\x02" + "\x01x\x00\x05\x00\x00\x01" + "\x01y\x00\x06\x00\x00\x02"
	third := "\x01\x01\x00\x00" + "\x00\x02\x00\x01\x00\x00\x00\x00" + "\x02" + "\x01x\x00\x07\x01\x00\x01" + "\x01y\x00\x06\x00\x00\x02"
	treeFirst := treeOf(vec(1, 0, 0, 0), wrote("x", 5, 0, 1))
	treeSecond := treeOf(vec(2, 0, 0, 0), wrote("x", 5, 0, 1), wrote("y", 6, 0, 2))
	treeThird := treeOf(vec(2, 1, 0, 0), wrote("x", 7, 1, 1), wrote("y", 6, 0, 2))
	m, n, o := said(0, 1, 0, treeFirst, 2), said(0, 2, 2, treeSecond, 4), said(1, 1, 0, treeThird, 7)
	l1 := ledger(key(0), text(first), sign(0, 1))
	l2 := ledger(append(l1.L[:3:3], text(second), sign(0, 3))...)
	l3 := ledger(append(l2.L[:5:5], key(1), text(third), sign(5, 6))...)

	a, ok := impl.DeviceNew(0)
	check(t, shown(a, ok), shown(device(0, treeOf(vec(0, 0, 0, 0))), true), "DeviceNew")
	a, ok = impl.Edit(impl.Ledger{}, a, []byte("x"), 5)
	check(t, shown(a, ok), shown(device(0, treeFirst), true), "Edit")
	l, a, p, ok := impl.Push(impl.Ledger{}, a)
	check(t, shown(l, a, p, ok), shown(l1, device(0, treeFirst, m), m, true), "Push")
	a, ok = impl.Edit(l, a, []byte("y"), 6)
	check(t, shown(a, ok), shown(device(0, treeSecond, m), true), "Edit behind Push")
	l, a, p, ok = impl.Push(l, a)
	check(t, shown(l, a, p, ok), shown(l2, device(0, treeSecond, n), n, true), "Push again")

	b, told := impl.Pull(l, fresh(1), n)
	check(t, shown(b, told), shown(fresh(1), 2), "Pull of the second one")
	b, told = impl.Pull(l, fresh(1), m)
	check(t, shown(b, told), shown(device(1, treeFirst, m), 0), "Pull of the first one")
	b, ok = impl.Edit(l, b, []byte("x"), 7)
	check(t, shown(b, ok), shown(device(1, treeOf(vec(1, 1, 0, 0), wrote("x", 7, 1, 1)), m), true), "Edit of another's")
	b, told = impl.Pull(l, b, n)
	check(t, shown(b, told), shown(device(1, treeThird, n), 0), "Pull of the second one behind it")
	l, b, p, ok = impl.Push(l, b)
	check(t, shown(l, b, p, ok), shown(l3, device(1, treeThird, n, o), o, true), "Push behind Pull")
	check(t, shown(impl.Known(b, 0), impl.Known(b, 1), impl.Known(b, 2)), "2;1;0;", "Known")
	a, told = impl.Pull(l, a, o)
	check(t, shown(a, told), shown(device(0, treeThird, n, o), 0), "Pull of another's")
	a, ok = impl.Delete(l, a, []byte("x"))
	check(t, shown(a, ok), shown(device(0, treeOf(vec(2, 1, 0, 0), wrote("y", 6, 0, 2)), n, o), true), "Delete")
	check(t, shown(impl.DeviceOk(l, a), impl.DeviceOk(l, b), impl.DeviceOk(l2, a)), "true;true;false;", "DeviceOk")
}

func TestDevicesCodes(t *testing.T) {
	check(t, shown(impl.PlTaken, impl.PlOld, impl.PlGap, impl.PlSig, impl.PlFork, impl.PlAlarm, impl.PlClash, impl.PlForm), "0;1;2;3;4;5;6;7;", "the codes")
}

func TestDevicesNew(t *testing.T) {
	for id := range 4 {
		d, ok := impl.DeviceNew(id)
		check(t, shown(d, ok), shown(impl.Device{Id: id, Tree: treeOf(vec(0, 0, 0, 0))}, true), "DeviceNew", id)
		check(t, shown(impl.DeviceOk(impl.Ledger{}, d), impl.DeviceOk(nonces(400), d)), "true;true;", "DeviceOk", id)
	}
	for _, id := range append([]int{-1, 4, 5, 1 << 32}, farNumbers...) {
		d, ok := impl.DeviceNew(id)
		check(t, shown(d, ok), shown(impl.Device{}, false), "DeviceNew", id)
		refusesDevice(t, "Id", impl.Ledger{}, fresh(id))
		l, heads, _ := fourSaid(t)
		refusesDevice(t, "Id", l, device(id, ones(), heads...))
	}
}

func TestDevicesThatMayBe(t *testing.T) {
	l, h, f := fourSaid(t)
	full := fullTree()
	good := map[string]impl.Device{
		"nothing":                  fresh(0),
		"the last device":          fresh(3),
		"empty lists":              {Tree: impl.Tree{Vec: vec(0, 0, 0, 0), L: []impl.Entry{}}, Heads: []impl.Manifest{}, Proof: []impl.Manifest{}},
		"a tree alone":             device(1, manyCopies()),
		"as many entries":          device(1, full, h...),
		"all heads":                device(2, ones(), h...),
		"all heads, others":        device(2, ones(), f...),
		"heads far apart":          device(1, ones(), h[0], f[3]),
		"heads of others":          device(1, ones(), h[0], h[2]),
		"its own head":             device(1, ones(), h[1]),
		"the last one's head":      device(0, ones(), h[3]),
		"a head's Vec":             device(0, h[3].Tree, h[3]),
		"all that may be known of": device(0, treeOf(vec(1000, 1000, 1000, 1000)), h...),
		"in alarm":                 modelWarned(fresh(0), h[1], f[1]),
		"in alarm, turned about":   modelWarned(fresh(0), f[1], h[1]),
		"in alarm for its own":     modelWarned(fresh(3), f[3], h[3]),
		"in alarm, with heads":     modelWarned(device(1, ones(), h...), h[2], f[2]),
		"in alarm for no head":     modelWarned(device(1, ones(), h[0], h[1]), h[3], f[3]),
	}
	for what, d := range good {
		check(t, shown(impl.DeviceOk(l, d)), "true;", what)
		a, b, fork := impl.Exchange(l, d, d)
		check(t, shown(a, b, fork), shown(d, d, false), what+": it meets itself")
		checkDevices(t, deviceAsk{l: l, d: d, e: fresh(1), m: h[1], ms: f, name: []byte("x"), val: 3, author: 1})
	}
}

func TestDevicesThatMayNotBe(t *testing.T) {
	l, h, f := fourSaid(t)
	other, turned, marked, unsaid := h[1], h[1], h[1], h[1]
	other.Author, turned.Tree, marked.Sig, unsaid.Prev = 2, ones(), h[2].Sig, 1
	bad := map[string]impl.Device{
		"the zero value":          {},
		"no tree":                 device(0, impl.Tree{}),
		"heads descend":           device(0, ones(), h[1], h[0]),
		"heads descend at last":   device(0, ones(), h[0], h[1], h[3], h[2]),
		"one head twice":          device(0, ones(), h[1], h[1]),
		"one head twice, at last": device(0, ones(), h[0], h[1], h[3], h[3]),
		"two heads of one":        device(0, ones(), h[1], f[1]),
		"five heads":              device(0, ones(), append(slices.Clone(h), h[0])...),
		"many heads":              device(0, ones(), slices.Repeat(h, 300)...),
		"another's head":          device(0, ones(), other),
		"a head turned":           device(0, ones(), turned),
		"a head's mark turned":    device(0, ones(), marked),
		"no head at all":          device(0, ones(), unsaid),
		"the first is turned":     device(0, ones(), marked, h[2]),
		"the last is turned":      device(0, ones(), h[0], marked),
		"the zero value as head":  device(0, ones(), impl.Manifest{}),
	}
	for what, d := range bad {
		refusesDevice(t, what, l, d)
		if d.Alarm, d.Proof = true, []impl.Manifest{h[0], f[0]}; len(d.Tree.Vec) > 0 {
			refusesDevice(t, what+", in alarm", l, d)
		}
	}
	refusesDevice(t, "nothing is signed", impl.Ledger{}, device(0, ones(), h[0]))
	for n := range 4 {
		refusesDevice(t, "no tree that knows of a head", l, device(0, impl.TreeNew(), h[n]))
	}
}

// TestDevicesKnowOfHeads: the tree knows of as much as a head, or of one less at one
// place alone, also where it knows of more at the others.
func TestDevicesKnowOfHeads(t *testing.T) {
	l, list := madeSaid(t, sample(), said(0, 1, 0, treeOf(vec(5, 6, 7, 8)), 0), said(2, 100, 9, treeOf(vec(8, 7, 6, 5)), 0))
	low, both := device(3, treeOf(vec(5, 6, 7, 8)), list[0]), device(3, treeOf(vec(8, 7, 7, 8)), list...)
	check(t, shown(impl.DeviceOk(l, low), impl.DeviceOk(l, both)), "true;true;", "just as much")
	for _, d := range []impl.Device{low, both} {
		for n := range 4 {
			for _, more := range []int{0, 5, 900} {
				v := slices.Clone(d.Tree.Vec)
				for i := range v {
					v[i] += more
				}
				v[n] = d.Tree.Vec[n] + 1
				d := device(3, treeOf(v), d.Heads...)
				check(t, shown(impl.DeviceOk(l, d)), "true;", "one more at one place", d)
				v[n] -= 2
				refusesDevice(t, "one less at one place", l, d)
			}
		}
	}
}

func TestDevicesProof(t *testing.T) {
	l, h, f := fourSaid(t)
	second, thirdOne := h[2], f[2]
	second.Seq, second.Prev = 2, 8
	thirdOne.Tree = impl.TreeNew()
	l, more := madeSaid(t, l, second, thirdOne)
	second, third := more[0], more[1]
	unsigned, another, none := f[2], f[2], f[2]
	unsigned.Sig, another.Author, none.Sig = h[2].Sig, 3, 400
	rows := []struct {
		what  string
		proof []impl.Manifest
		ok    bool
	}{
		{"none", nil, false},
		{"one", h[2:3], false},
		{"two", []impl.Manifest{h[2], f[2]}, true},
		{"two, turned about", []impl.Manifest{f[2], h[2]}, true},
		{"two others", []impl.Manifest{h[2], third}, true},
		{"three", []impl.Manifest{h[2], f[2], third}, false},
		{"four", []impl.Manifest{h[2], f[2], f[2], h[2]}, false},
		{"many", slices.Repeat([]impl.Manifest{h[2], f[2]}, 500), false},
		{"one twice", []impl.Manifest{h[2], h[2]}, false},
		{"two places", []impl.Manifest{h[2], second}, false},
		{"two places of a fork", []impl.Manifest{f[2], second}, false},
		{"two authors", []impl.Manifest{h[2], f[3]}, false},
		{"two authors of one thing", []impl.Manifest{h[2], another}, false},
		{"one not signed", []impl.Manifest{h[2], unsigned}, false},
		{"one not signed, in front", []impl.Manifest{unsigned, h[2]}, false},
		{"one is no manifest", []impl.Manifest{h[2], none}, false},
		{"one is no manifest, in front", []impl.Manifest{none, h[2]}, false},
		{"zero values", []impl.Manifest{{}, {}}, false},
	}
	for _, r := range rows {
		for _, d := range []impl.Device{fresh(0), device(2, ones(), h...)} {
			if d.Proof = r.proof; r.proof != nil {
				refusesDevice(t, "proof without alarm: "+r.what, l, d)
			}
			if d.Alarm = true; r.ok {
				check(t, shown(impl.DeviceOk(l, d)), "true;", r.what)
			} else {
				refusesDevice(t, "alarm with proof: "+r.what, l, d)
			}
		}
	}
}

func TestDevicesEdit(t *testing.T) {
	l, h, f := fourSaid(t)
	d := device(2, fullTree(), h[0], h[2])
	rows := []struct {
		what string
		d    impl.Device
		name string
		val  int
		want impl.Tree
	}{
		{"the first", fresh(3), "x", 0, treeOf(vec(0, 0, 0, 1), wrote("x", 0, 3, 1))},
		{"by the first device", device(0, ones()), "x", 999, treeOf(vec(2, 1, 1, 1), wrote("x", 999, 0, 2))},
		{"over another's", d, "a", 7, treeOf(vec(9, 1, 2, 1), append([]impl.Entry{wrote("a", 7, 2, 2)}, fullTree().L[1:]...)...)},
		{"over three", d, "z", 7, treeOf(vec(9, 1, 2, 1), append(fullTree().L[:9:9], wrote("z", 7, 2, 2))...)},
		{"the last deed", device(1, treeOf(vec(0, 999, 0, 0))), "\u4e2d", 7, treeOf(vec(0, 1000, 0, 0), wrote("\u4e2d", 7, 1, 1000))},
	}
	for _, r := range rows {
		got, ok := impl.Edit(l, r.d, []byte(r.name), r.val)
		check(t, shown(got, ok), shown(device(r.d.Id, r.want, r.d.Heads...), true), r.what)
		check(t, shown(impl.DeviceOk(l, got)), "true;", r.what)
		got, ok = impl.Edit(l, modelWarned(r.d, h[1], f[1]), []byte(r.name), r.val)
		check(t, shown(got, ok), shown(impl.Device{}, false), r.what+", in alarm")
	}
	no := func(what string, d impl.Device, name string, val int) {
		got, ok := impl.Edit(l, d, []byte(name), val)
		check(t, shown(got, ok), shown(impl.Device{}, false), what, name, val)
	}
	no("one name too many", d, "y", 7)
	no("one deed too many", device(1, treeOf(vec(0, 1000, 0, 0))), "x", 7)
	for _, name := range badNames() {
		no("a name that may not be", d, name, 7)
	}
	for _, val := range append([]int{-1, 1000}, farNumbers...) {
		no("Val", d, "a", val)
	}
}

func TestDevicesDelete(t *testing.T) {
	l, h, f := fourSaid(t)
	d := device(2, fullTree(), h[0], h[2])
	rows := []struct {
		name string
		want impl.Tree
	}{
		{"a", treeOf(fullTree().Vec, fullTree().L[1:]...)},
		{"z", treeOf(fullTree().Vec, fullTree().L[:9]...)},
	}
	for _, r := range rows {
		got, ok := impl.Delete(l, d, []byte(r.name))
		check(t, shown(got, ok), shown(device(2, r.want, d.Heads...), true), "Delete", r.name)
		check(t, shown(impl.DeviceOk(l, got)), "true;", "Delete", r.name)
		again, ok := impl.Delete(l, got, []byte(r.name))
		check(t, shown(again, ok), shown(impl.Device{}, false), "Delete again", r.name)
		got, ok = impl.Delete(l, modelWarned(d, h[1], f[1]), []byte(r.name))
		check(t, shown(got, ok), shown(impl.Device{}, false), "Delete in alarm", r.name)
	}
	for _, name := range append(badNames(), "y", "A", "aa") {
		got, ok := impl.Delete(l, d, []byte(name))
		check(t, shown(got, ok), shown(impl.Device{}, false), "Delete of none", name)
	}
	got, ok := impl.Delete(l, fresh(0), []byte("x"))
	check(t, shown(got, ok), shown(impl.Device{}, false), "Delete of nothing")
}

// checkPushed fails unless d says want, but for the mark, and has it as its head
// then; where want is the zero value it must say nothing.
func checkPushed(t *testing.T, what string, l impl.Ledger, d impl.Device, want impl.Manifest) {
	t.Helper()
	after, head, m, ok := impl.Push(l, d)
	if want.Seq == 0 {
		check(t, shown(after, head, m, ok), shown(impl.Ledger{}, impl.Device{}, impl.Manifest{}, false), what, d)
		return
	}
	wantL, signed := madeSaid(t, l, want)
	check(t, shown(after, head, m, ok), shown(wantL, modelWithHead(d, signed[0]), signed[0], true), what, d)
	check(t, shown(impl.DeviceOk(after, head), impl.SigOk(after, m)), "true;true;", what, d)
}

// TestDevicesPush: the first one of each device, and one behind a head, with all
// heads of others in order, ahead of its own and behind it, and without some.
func TestDevicesPush(t *testing.T) {
	l, h, _ := fourSaid(t)
	for id := range 4 {
		checkPushed(t, "with nothing", impl.Ledger{}, fresh(id), said(id, 1, 0, impl.TreeNew(), 0))
		for some := range 16 {
			var heads []impl.Manifest
			seq, prev := 1, 0
			for n := range 4 {
				if some>>n&1 == 1 {
					heads = append(heads, h[n])
				}
			}
			if some>>id&1 == 1 {
				seq, prev = 2, 3*id+2
			}
			d := device(id, ones(), heads...)
			checkPushed(t, "with heads", l, d, said(id, seq, prev, ones(), 0))
		}
	}
	d := device(1, ones(), h...)
	after, got, m, ok := impl.Push(l, d)
	want := said(1, 2, 5, ones(), 21)
	check(t, shown(got, m, ok), shown(device(1, ones(), h[0], want, h[2], h[3]), want, true), "its own head is another one")
	check(t, shown(len(after.L), after.L[20], impl.Follows(after, h[1], m)), shown(22, bodyTerm(want), true), "its own head is another one")
	next := said(1, 3, 21, ones(), 0)
	checkPushed(t, "once more", after, got, next)
}

// TestDevicesPushNoHead: the text that nobody says, with all numbers 0, is there.
func TestDevicesPushNoHead(t *testing.T) {
	for _, l := range []impl.Ledger{ledger(text(strings.Repeat("\x00", 13))), ledger(nonce(0), key(0), text(strings.Repeat("\x00", 13)), sign(1, 2))} {
		for id := range 4 {
			checkPushed(t, "no head", l, fresh(id), said(id, 1, 0, impl.TreeNew(), 0))
		}
	}
}

func TestDevicesPushLimits(t *testing.T) {
	for count := range 13 {
		x := treeOf(fullTree().Vec, fullTree().L[:count]...)
		want := said(2, 1, 0, x, 0)
		if count > 8 {
			want = impl.Manifest{}
		}
		checkPushed(t, "entries", impl.Ledger{}, device(2, x), want)
	}
	for seq := 97; seq <= 100; seq++ {
		l, list := madeSaid(t, sample(), said(2, seq, 7, ones(), 0), said(3, 100, 7, ones(), 0))
		want := said(2, seq+1, 15+1, ones(), 0)
		if seq == 100 {
			want = impl.Manifest{}
		}
		check(t, shown(impl.Body(l, list[0])), "15;", "Body")
		checkPushed(t, "Seq", l, device(2, ones(), list...), want)
	}
	for count := 390; count <= 400; count++ {
		want := said(2, 1, 0, impl.TreeNew(), 0)
		l := nonces(count - 3)
		l.L = append(l.L, key(2), bodyTerm(want), sign(count-3, count-2))
		if count > 396 {
			want = impl.Manifest{}
		}
		checkPushed(t, "terms", nonces(count), fresh(2), want)
		checkPushed(t, "terms, that are there already", l, fresh(2), want)
	}
}

// TestDevicesPushNumbers: Prev by where the head's body is in the ledger, the last
// place with it where there still is room.
func TestDevicesPushNumbers(t *testing.T) {
	for _, at := range []int{0, 1, 254, 255, 256, 393} {
		l, head := nonces(at), saidX(at+2)
		l.L = append(l.L, text(bodyX), key(2), sign(at+1, at))
		d := device(2, head.Tree, head)
		check(t, shown(impl.DeviceOk(l, d), impl.Body(l, head)), shown(true, at), "the head is said", at)
		checkPushed(t, "behind a head", l, d, said(2, 2, at+1, head.Tree, 0))
	}
}

func TestDevicesPushInAlarm(t *testing.T) {
	l, h, f := fourSaid(t)
	for id := range 4 {
		checkPushed(t, "in alarm", l, modelWarned(device(id, ones(), h...), h[1], f[1]), impl.Manifest{})
		checkPushed(t, "in alarm, no head", l, modelWarned(fresh(id), h[1], f[1]), impl.Manifest{})
	}
}

// pulled is one way in which a manifest may stand to the head of its author, and
// what is told then where nothing else speaks against it.
type pulled struct {
	what    string
	m       impl.Manifest
	hasHead bool
	told    int
}

// headFive is the fifth thing that the author says.
func headFive(author int) impl.Manifest {
	return said(author, 5, 9, treeOf(vec(3, 3, 3, 3), wrote("x", 7, 0, 2)), 0)
}

// newer knows of one thing more than headFive.
func newer() impl.Tree { return treeOf(vec(4, 3, 3, 3), wrote("x", 7, 0, 4)) }

// pulledWays has every way, where the head's body is prev-1.
func pulledWays(author, prev int) []pulled {
	head := headFive(author)
	ways := []pulled{
		{"right behind", said(author, 6, prev, newer(), 0), true, 0},
		{"right behind, no less known", said(author, 6, prev, treeOf(vec(3, 3, 3, 3), wrote("x", 7, 0, 2)), 0), true, 0},
		{"the head itself", head, true, 1},
		{"a fork of the head", said(author, 5, 9, newer(), 0), true, 4},
		{"a fork in Prev", said(author, 5, 10, head.Tree, 0), true, 4},
		{"a fork behind the head", said(author, 5, prev, newer(), 0), true, 4},
		{"Seq is one less", said(author, 4, prev, newer(), 0), true, 1},
		{"the first one", said(author, 1, 0, newer(), 0), true, 1},
		{"the second one", said(author, 2, 1, newer(), 0), true, 1},
		{"Seq is two more", said(author, 7, prev, newer(), 0), true, 2},
		{"the last one", said(author, 100, prev, newer(), 0), true, 2},
		{"Prev is one more", said(author, 6, prev+1, newer(), 0), true, 2},
		{"Prev is one less", said(author, 6, prev-1, newer(), 0), true, 2},
		{"Prev is the head's", said(author, 6, 9, newer(), 0), true, 2},
		{"the first one, no head", said(author, 1, 0, newer(), 0), false, 0},
		{"the second one, no head", said(author, 2, 1, newer(), 0), false, 2},
		{"behind another one, no head", said(author, 6, prev, newer(), 0), false, 2},
		{"the last one, no head", said(author, 100, 400, newer(), 0), false, 2},
	}
	for n := range 4 {
		x := newer()
		if x.Vec[n]--; n == 0 {
			x.Vec[n], x.L[0].At = 2, 2
		}
		x.L[0].Val = 7 + n
		ways = append(ways, pulled{"less known at one place", said(author, 6, prev, x, 0), true, 2})
	}
	return ways
}

// treesOfDevice merge with newer, and with headFive's, or do not: the third one would
// have too many entries with newer's, the last one has an unlike one for both.
func treesOfDevice() []impl.Tree {
	some := func(count int) impl.Tree {
		x := treeOf(vec(3, 3, 3, 20))
		for n := range count {
			x.L = append(x.L, wrote(string(rune('a'+n)), n, 3, 9+n))
		}
		return x
	}
	unlike := treeOf(vec(4, 3, 3, 3), wrote("x", 8, 0, 2), wrote("y", 7, 0, 4))
	return []impl.Tree{headFive(0).Tree, some(11), some(12), unlike}
}

// formless turns m into what is not ManifestOk, in so many ways.
func formless(m impl.Manifest, way int) impl.Manifest {
	switch way {
	case 1:
		m.Prev = 401
	case 2:
		m.Tree = treeOf(vec(1000, 1000, 1000, 1000), longNames(9).L...)
	case 3:
		m.Tree = ownTree(m.Tree)
		m.Tree.L[0].Val = 1000
	}
	return m
}

// rawSigned puts the key, the text and the mark of m behind l, whether or not it is
// ManifestOk, and a mark of the same thing by the key of another device.
func rawSigned(l impl.Ledger, m impl.Manifest) (impl.Ledger, impl.Manifest, int) {
	l, k := modelOf(l).intern(key(m.Author))
	l, b := modelOf(l).intern(bodyTerm(m))
	l, m.Sig = modelOf(l).intern(sign(k, b))
	l, k = modelOf(l).intern(key((m.Author + 1) % 4))
	l, other := modelOf(l).intern(sign(k, b))
	return l, m, other
}

// firstTold is what is told of all that speaks against a manifest.
func firstTold(formless, alarm, unsigned bool, way int, clash bool) int {
	switch {
	case formless:
		return 7
	case alarm:
		return 5
	case unsigned:
		return 3
	case way != 0:
		return way
	case clash:
		return 6
	}
	return 0
}

// TestDevicesPull asks for all that may be told, each with all that could be told
// ahead of it and behind it, for the device itself as the author, and for others.
func TestDevicesPull(t *testing.T) {
	counts := map[int]int{}
	for author := range 4 {
		base, list := madeSaid(t, sample(), headFive(author), said(3, 50, 1, impl.TreeNew(), 0), said(3, 50, 2, impl.TreeNew(), 0))
		for _, way := range pulledWays(author, impl.Body(base, list[0])+1) {
			for form := range 4 {
				l, m, other := rawSigned(base, formless(way.m, form))
				for _, x := range treesOfDevice() {
					calm := device(2, x)
					if way.hasHead {
						calm.Heads = list[:1]
					}
					_, merges := modelMerge(x, m.Tree)
					for _, d := range []impl.Device{calm, modelWarned(calm, list[1], list[2])} {
						for _, sig := range []int{m.Sig, m.Sig - 1, other} {
							q := said(m.Author, m.Seq, m.Prev, m.Tree, sig)
							told := firstTold(form > 0, d.Alarm, sig != m.Sig, way.told, !merges)
							counts[told]++
							checkPulled(t, shown(way.what, form, sig == m.Sig), l, d, q, told)
						}
					}
				}
			}
		}
	}
	for told := range 8 {
		if counts[told] < 8 {
			t.Fatal("hardly ever told", told, counts)
		}
	}
}

// checkPulled asks all functions that tell of what is pulled.
func checkPulled(t *testing.T, what string, l impl.Ledger, d impl.Device, m impl.Manifest, told int) {
	t.Helper()
	want, taken := d, 0
	switch told {
	case impl.PlTaken:
		x, _ := modelMerge(d.Tree, m.Tree)
		want = modelWithHead(device(d.Id, x, d.Heads...), m)
		taken = 1
	case impl.PlFork:
		head, _ := modelHead(d, m.Author)
		want = device(d.Id, d.Tree, d.Heads...)
		want.Alarm, want.Proof = true, []impl.Manifest{head, m}
	}
	got, code := impl.Pull(l, d, m)
	check(t, shown(got, code), shown(want, told), what, d, m)
	check(t, shown(impl.DeviceOk(l, got)), "true;", what, d, m)
	got, count := impl.PullAll(l, d, []impl.Manifest{m})
	check(t, shown(got, count), shown(want, taken), what+": PullAll", d, m)
	check(t, shown(impl.Wants(l, d, m)), shown(told == 0), what+": Wants", d, m)
}

// TestDevicesPullByHand has what comes of it written down by hand: two trees that
// merge, and two that do not.
func TestDevicesPullByHand(t *testing.T) {
	l, list := madeSaid(t, sample(), headFive(1), said(0, 1, 0, treeOf(vec(1, 0, 0, 0)), 0), said(3, 1, 0, treeOf(vec(0, 0, 0, 1)), 0))
	l, next := madeSaid(t, l, said(1, 6, 15, newer(), 0), said(2, 1, 0, newer(), 0))
	trees := treesOfDevice()
	twelve := treeOf(vec(4, 3, 3, 20), append(trees[1].L[:11:11], wrote("x", 7, 0, 4))...)
	for at, merged := range []impl.Tree{newer(), twelve, {}, {}} {
		d := device(2, trees[at], list[1], list[0], list[2])
		first, behind, told := d, d, 6
		if at < 2 {
			behind = device(2, merged, list[1], next[0], list[2])
			first = device(2, merged, list[1], list[0], next[1], list[2])
			told = 0
		}
		got, code := impl.Pull(l, d, next[0])
		check(t, shown(got, code), shown(behind, told), "behind a head", at)
		got, code = impl.Pull(l, d, next[1])
		check(t, shown(got, code), shown(first, told), "the first one", at)
		got, code = impl.Pull(l, device(0, trees[at]), list[2])
		check(t, shown(got, code), shown(device(0, trees[at], list[2]), 0), "one that knows of less", at)
	}
}

// chain is what device 0 says one behind the other, so many things. The body of the
// first one has number 1.
func chain(t *testing.T, count int) (impl.Ledger, []impl.Manifest) {
	t.Helper()
	l, list := madeSaid(t, impl.Ledger{}, said(0, 1, 0, impl.TreeNew(), 0))
	for n := 1; n < count; n++ {
		prev := len(l.L) - 1
		next, m := madeSaid(t, l, said(0, n+1, prev, treeOf(vec(n, 0, 0, 0)), 0))
		l, list = next, append(list, m...)
	}
	return l, list
}

func TestDevicesPullAll(t *testing.T) {
	l, list := chain(t, 100)
	last := device(1, treeOf(vec(99, 0, 0, 0)), list[99])
	check(t, shown(len(l.L), impl.DeviceOk(l, last)), "201;true;", "the last one")
	rows := []struct {
		what  string
		ms    []impl.Manifest
		want  impl.Device
		taken int
	}{
		{"nothing", nil, fresh(1), 0},
		{"an empty list", []impl.Manifest{}, fresh(1), 0},
		{"the first one", list[:1], device(1, impl.TreeNew(), list[0]), 1},
		{"all that may be pulled", list, last, 100},
		{"one more", append(slices.Clone(list), list[99]), impl.Device{}, -1},
		{"one more, that is the first one again", slices.Repeat(list[:1], 101), impl.Device{}, -1},
		{"many more", slices.Repeat(list, 50), impl.Device{}, -1},
		{"one as often as may be", slices.Repeat(list[:1], 100), device(1, impl.TreeNew(), list[0]), 1},
		{"each twice", []impl.Manifest{list[0], list[0], list[1], list[1]}, device(1, list[1].Tree, list[1]), 2},
		{"turned about", []impl.Manifest{list[2], list[1], list[0]}, device(1, impl.TreeNew(), list[0]), 1},
		{"one is lacking", []impl.Manifest{list[0], list[1], list[3], list[4]}, device(1, list[1].Tree, list[1]), 2},
		{"old ones between", []impl.Manifest{list[0], list[1], list[0], list[2], list[1], list[3]}, device(1, list[3].Tree, list[3]), 4},
		{"no manifests between", []impl.Manifest{{}, list[0], {}, list[1], {}}, device(1, list[1].Tree, list[1]), 2},
	}
	for _, r := range rows {
		got, taken := impl.PullAll(l, fresh(1), r.ms)
		check(t, shown(got, taken), shown(r.want, r.taken), r.what)
	}
}

// TestDevicesPullAllFork: a fork stands in the middle. What is right behind the head,
// or behind the fork, is not taken any more, nor is another fork.
func TestDevicesPullAllFork(t *testing.T) {
	l, list := chain(t, 4)
	fork, again := list[1], list[2]
	fork.Tree, again.Tree = treeOf(vec(9, 0, 0, 0)), treeOf(vec(8, 0, 0, 0))
	l, forks := madeSaid(t, l, fork, again)
	l, behind := madeSaid(t, l, said(0, 3, impl.Body(l, forks[0])+1, treeOf(vec(9, 1, 0, 0)), 0), said(3, 1, 0, impl.TreeNew(), 0))
	want := modelWarned(device(1, list[1].Tree, list[1]), list[1], forks[0])
	for _, rest := range [][]impl.Manifest{nil, list[2:], behind, forks, {{}}, slices.Repeat(forks, 40)} {
		ms := append([]impl.Manifest{list[0], list[1], forks[0]}, rest...)
		got, taken := impl.PullAll(l, fresh(1), ms)
		check(t, shown(got, taken), shown(want, 2), "a fork in the middle", rest)
		got, taken = impl.PullAll(l, want, ms)
		check(t, shown(got, taken), shown(want, 0), "in alarm before", rest)
	}
	got, taken := impl.PullAll(l, fresh(1), []impl.Manifest{list[0], forks[0], behind[0], list[1]})
	check(t, shown(got, taken), shown(device(1, behind[0].Tree, behind[0]), 3), "behind the fork alone")
	got, told := impl.Pull(l, got, list[2])
	check(t, shown(got, told), shown(modelWarned(device(1, behind[0].Tree, behind[0]), behind[0], list[2]), 4), "two forks that went on")
}

func TestDevicesExchange(t *testing.T) {
	l, h, f := fourSaid(t)
	l, more := madeSaid(t, l, said(1, 2, 5, ones(), 0), said(1, 2, 6, ones(), 0))
	next, fork := more[0], more[1]
	all := device(0, ones(), h...)
	rows := []struct {
		what         string
		a, b         impl.Device
		wantA, wantB impl.Device
		forked       bool
	}{
		{"no heads", fresh(0), fresh(1), fresh(0), fresh(1), false},
		{"one has none", all, fresh(1), all, fresh(1), false},
		{"the same heads", all, device(3, ones(), h...), all, device(3, ones(), h...), false},
		{"other authors", device(0, ones(), h[0], h[2]), device(1, ones(), f[1], f[3]), device(0, ones(), h[0], h[2]), device(1, ones(), f[1], f[3]), false},
		{"another place", device(0, ones(), h[1]), device(2, ones(), next), device(0, ones(), h[1]), device(2, ones(), next), false},
		{"another place, behind a fork", device(0, ones(), f[1]), device(2, ones(), next), device(0, ones(), f[1]), device(2, ones(), next), false},
		{"at the second place", device(0, ones(), h[0], next), device(2, ones(), fork, h[3]),
			modelWarned(device(0, ones(), h[0], next), next, fork), modelWarned(device(2, ones(), fork, h[3]), next, fork), true},
		{"of two authors", all, device(1, ones(), h[0], f[1], h[2], f[3]),
			modelWarned(all, h[1], f[1]), modelWarned(device(1, ones(), h[0], f[1], h[2], f[3]), h[1], f[1]), true},
		{"of two authors, one has no other head", device(0, ones(), h[0], h[2], h[3]), device(1, ones(), f[2], f[3]),
			modelWarned(device(0, ones(), h[0], h[2], h[3]), h[2], f[2]), modelWarned(device(1, ones(), f[2], f[3]), h[2], f[2]), true},
		{"of all authors", all, device(1, ones(), f...), modelWarned(all, h[0], f[0]), modelWarned(device(1, ones(), f...), h[0], f[0]), true},
		{"one device number", all, device(0, ones(), f...), modelWarned(all, h[0], f[0]), modelWarned(device(0, ones(), f...), h[0], f[0]), true},
	}
	for _, r := range rows {
		a, b, forked := impl.Exchange(l, r.a, r.b)
		check(t, shown(a, b, forked), shown(r.wantA, r.wantB, r.forked), r.what)
		check(t, shown(impl.DeviceOk(l, a), impl.DeviceOk(l, b)), "true;true;", r.what)
		again, too, still := impl.Exchange(l, a, b)
		check(t, shown(again, too, still), shown(a, b, r.forked), r.what+", again")
		b, a, forked = impl.Exchange(l, r.b, r.a)
		wantA, wantB := r.wantA, r.wantB
		slices.Reverse(wantA.Proof)
		wantB.Proof = wantA.Proof
		check(t, shown(b, a, forked), shown(wantB, wantA, r.forked), r.what+", the other way")
	}
	for n := range 4 {
		mine, theirs := device(3, ones(), h[n]), device(2, ones(), f...)
		a, b, forked := impl.Exchange(l, mine, theirs)
		check(t, shown(a, b, forked), shown(modelWarned(mine, h[n], f[n]), modelWarned(theirs, h[n], f[n]), true), "of one author", n)
	}
}

// TestDevicesExchangeInAlarm: one of both is in alarm already, or both, for the same
// author or for another one; it stays so with the proof that it has.
func TestDevicesExchangeInAlarm(t *testing.T) {
	l, h, f := fourSaid(t)
	for n := range 4 {
		calmA, calmB := device(0, ones(), h[1]), device(1, ones(), f[1])
		a, b := modelWarned(calmA, f[n], h[n]), modelWarned(calmB, f[n], h[n])
		same, other := device(2, ones(), h[1]), device(3, ones(), h[2])
		rows := []struct {
			a, b, wantA, wantB impl.Device
			forked             bool
		}{
			{calmA, calmB, modelWarned(calmA, h[1], f[1]), modelWarned(calmB, h[1], f[1]), true},
			{a, calmB, a, modelWarned(calmB, h[1], f[1]), true},
			{calmA, b, modelWarned(calmA, h[1], f[1]), b, true},
			{a, b, a, b, true},
			{a, same, a, same, false},
			{same, a, same, a, false},
			{b, other, b, other, false},
			{a, a, a, a, false},
			{modelWarned(fresh(0), h[n], f[n]), modelWarned(fresh(1), f[n], h[n]), modelWarned(fresh(0), h[n], f[n]), modelWarned(fresh(1), f[n], h[n]), false},
		}
		for at, r := range rows {
			a, b, forked := impl.Exchange(l, r.a, r.b)
			check(t, shown(a, b, forked), shown(r.wantA, r.wantB, r.forked), "in alarm", n, at)
		}
	}
}

// TestDevicesExchangeRefused: one that is not DeviceOk meets one that would know.
func TestDevicesExchangeRefused(t *testing.T) {
	l, h, f := fourSaid(t)
	good := device(1, ones(), f...)
	for _, bad := range []impl.Device{device(4, ones(), h...), device(0, ones(), h[0], h[0]), device(0, h[0].Tree, h...), {Tree: ones(), Heads: h, Alarm: true}, {Tree: ones(), Heads: h, Proof: h[:1]}} {
		for _, pair := range [][2]impl.Device{{good, bad}, {bad, good}, {bad, bad}} {
			a, b, forked := impl.Exchange(l, pair[0], pair[1])
			check(t, shown(a, b, forked), shown(impl.Device{}, impl.Device{}, false), "one is not DeviceOk", bad)
		}
	}
	for _, l := range []impl.Ledger{{}, ledger(append(l.L[:len(l.L):len(l.L)], l.L[0])...)} {
		a, b, forked := impl.Exchange(l, device(0, ones(), h...), good)
		check(t, shown(a, b, forked), shown(impl.Device{}, impl.Device{}, false), "the ledger")
	}
}

// TestDevicesKnown: the first head of an author counts, whatever the device is.
func TestDevicesKnown(t *testing.T) {
	_, h, f := fourSaid(t)
	far := said(-5, -7, 3, impl.Tree{Vec: []int{1, 2}, L: []impl.Entry{wrote("a b", -1, 9, 0), {}}}, -1)
	nobody := said(77, 1<<40, 0, impl.Tree{}, 1<<50)
	second := f[1]
	second.Seq = 9
	rows := []struct {
		what   string
		d      impl.Device
		author int
		known  int
		head   impl.Manifest
		has    bool
	}{
		{"the zero value", impl.Device{}, 0, 0, impl.Manifest{}, false},
		{"nothing", fresh(1), 1, 0, impl.Manifest{}, false},
		{"the first one", device(1, ones(), h...), 0, 1, h[0], true},
		{"the last one", device(1, ones(), h...), 3, 1, h[3], true},
		{"another author alone", device(1, ones(), h[2]), 1, 0, impl.Manifest{}, false},
		{"two of one", device(1, ones(), h[0], second, h[1], f[1]), 1, 9, second, true},
		{"two of one, turned about", device(1, ones(), h[1], second), 1, 1, h[1], true},
		{"heads descend", device(1, ones(), h[3], h[0]), 0, 1, h[0], true},
		{"in alarm", modelWarned(device(1, ones(), h[2]), h[1], f[1]), 2, 1, h[2], true},
		{"in the proof alone", modelWarned(device(1, ones(), h[2]), h[1], f[1]), 1, 0, impl.Manifest{}, false},
		{"no tree", device(-4, impl.Tree{}, h[2]), 2, 1, h[2], true},
		{"no manifest", device(1, ones(), h[0], far, nobody), -5, -7, far, true},
		{"no device", device(1, ones(), h[0], far, nobody), 77, 1 << 40, nobody, true},
		{"the zero value as head", device(1, ones(), impl.Manifest{}, h[0]), 0, 0, impl.Manifest{}, true},
		{"many heads", device(1, ones(), append(slices.Repeat(h[:3], 300), h[3])...), 3, 1, h[3], true},
	}
	for _, r := range rows {
		m, ok := impl.HeadOf(r.d, r.author)
		check(t, shown(impl.Known(r.d, r.author)), shown(r.known), "Known: "+r.what)
		check(t, shown(m, ok), shown(r.head, r.has), "HeadOf: "+r.what)
		for _, author := range append([]int{-1, 4, 5, 1 << 32}, farNumbers...) {
			m, ok := impl.HeadOf(r.d, author)
			check(t, shown(impl.Known(r.d, author), m, ok), shown(0, impl.Manifest{}, false), "no such author: "+r.what)
		}
	}
}
