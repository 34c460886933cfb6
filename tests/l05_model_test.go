package tests

import (
	"testing"

	"loop.example/g00642/impl"
)

// What chapter 5 says, written down once more, as directly as can be: heads are a
// list that is gone through from the front, codes are numbers in one switch.

func (w model) deviceOk(d impl.Device) bool {
	if !w.ok || d.Id < 0 || d.Id > 3 || !modelTreeOk(d.Tree) {
		return false
	}
	for n, h := range d.Heads {
		if !w.sigOk(h) || !modelVecBelow(h.Tree.Vec, d.Tree.Vec) || n > 0 && d.Heads[n-1].Author >= h.Author {
			return false
		}
	}
	if !d.Alarm {
		return len(d.Proof) == 0
	}
	return len(d.Proof) == 2 && w.forked(d.Proof[0], d.Proof[1])
}

// device is one that is not in alarm.
func device(id int, x impl.Tree, heads ...impl.Manifest) impl.Device {
	return impl.Device{Id: id, Tree: x, Heads: heads}
}

func modelNew(id int) (impl.Device, bool) {
	if id < 0 || id > 3 {
		return impl.Device{}, false
	}
	return device(id, treeOf(vec(0, 0, 0, 0))), true
}

// modelWarned keeps the proof of one that was in alarm.
func modelWarned(d impl.Device, a, b impl.Manifest) impl.Device {
	if !d.Alarm {
		d.Alarm, d.Proof = true, []impl.Manifest{a, b}
	}
	return d
}

func modelHead(d impl.Device, author int) (impl.Manifest, bool) {
	for _, h := range d.Heads {
		if h.Author == author {
			return h, true
		}
	}
	return impl.Manifest{}, false
}

func modelKnown(d impl.Device, author int) int {
	h, _ := modelHead(d, author)
	return h.Seq
}

// modelWithHead goes through the authors in order, and takes the head of each.
func modelWithHead(d impl.Device, m impl.Manifest) impl.Device {
	var heads []impl.Manifest
	for author := range 4 {
		if author == m.Author {
			heads = append(heads, m)
		} else if h, has := modelHead(d, author); has {
			heads = append(heads, h)
		}
	}
	d.Heads = heads
	return d
}

func (w model) edit(d impl.Device, name []byte, val int) (impl.Device, bool) {
	x, ok := modelPut(d.Tree, d.Id, name, val)
	if !w.deviceOk(d) || d.Alarm || !ok {
		return impl.Device{}, false
	}
	d.Tree = x
	return d, true
}

func (w model) remove(d impl.Device, name []byte) (impl.Device, bool) {
	x, ok := modelDrop(d.Tree, name)
	if !w.deviceOk(d) || d.Alarm || !ok {
		return impl.Device{}, false
	}
	d.Tree = x
	return d, true
}

func (w model) push(d impl.Device) (impl.Ledger, impl.Device, impl.Manifest, bool) {
	head, has := modelHead(d, d.Id)
	if !w.deviceOk(d) || d.Alarm || len(d.Tree.L) > 8 || len(w.l.L) > 396 || head.Seq == 100 {
		return impl.Ledger{}, impl.Device{}, impl.Manifest{}, false
	}
	m := said(d.Id, 1, 0, d.Tree, 0)
	if has {
		m = said(d.Id, head.Seq+1, w.body(head)+1, d.Tree, 0)
	}
	l, m, ok := w.signed(m)
	return l, modelWithHead(d, m), m, ok
}

func (w model) pull(d impl.Device, m impl.Manifest) (impl.Device, int) {
	if !w.deviceOk(d) {
		return impl.Device{}, -1
	}
	head, has := modelHead(d, m.Author)
	merged, merges := modelMerge(d.Tree, m.Tree)
	switch {
	case !modelManifestOk(m):
		return d, 7
	case d.Alarm:
		return d, 5
	case !w.sigOk(m):
		return d, 3
	case !has && m.Seq != 1:
		return d, 2
	case has && w.forked(head, m):
		return modelWarned(d, head, m), 4
	case has && m.Seq <= head.Seq:
		return d, 1
	case has && !w.follows(head, m):
		return d, 2
	case !merges:
		return d, 6
	}
	d.Tree = merged
	return modelWithHead(d, m), 0
}

func (w model) pullAll(d impl.Device, ms []impl.Manifest) (impl.Device, int) {
	if !w.deviceOk(d) || len(ms) > 100 {
		return impl.Device{}, -1
	}
	taken := 0
	for _, m := range ms {
		var told int
		if d, told = w.pull(d, m); told == 0 {
			taken++
		}
	}
	return d, taken
}

func (w model) wants(d impl.Device, m impl.Manifest) bool {
	_, told := w.pull(d, m)
	return told == 0
}

func (w model) exchange(a, b impl.Device) (impl.Device, impl.Device, bool) {
	if !w.deviceOk(a) || !w.deviceOk(b) {
		return impl.Device{}, impl.Device{}, false
	}
	for _, g := range a.Heads {
		for _, h := range b.Heads {
			if w.forked(g, h) {
				return modelWarned(a, g, h), modelWarned(b, g, h), true
			}
		}
	}
	return a, b, false
}

// deviceAsk is what a function of the chapter may be asked with. The author is also
// the number that a new device is to have.
type deviceAsk struct {
	l      impl.Ledger
	d, e   impl.Device
	m      impl.Manifest
	ms     []impl.Manifest
	name   []byte
	val    int
	author int
}

// deviceCall is one function of the chapter: how it is asked, and what the model
// says, each with all its answers as a list. Refusal is what it tells where l is not
// LedgerOk, or d, or one of both devices, is not DeviceOk; three do not ask for that.
type deviceCall struct {
	name     string
	ask      func(q deviceAsk) []any
	model    func(q deviceAsk) []any
	refusal  []any
	hasOther bool
}

func fourAnswers(l impl.Ledger, d impl.Device, m impl.Manifest, ok bool) []any {
	return all(l, d, m, ok)
}

func twoDevices(a, b impl.Device, ok bool) []any { return all(a, b, ok) }

func withCode(d impl.Device, told int) []any { return all(d, told) }

func deviceCalls() []deviceCall {
	return append(writeCalls(), []deviceCall{
		{"Pull", func(q deviceAsk) []any { return withCode(impl.Pull(q.l, q.d, q.m)) },
			func(q deviceAsk) []any { return withCode(modelOf(q.l).pull(q.d, q.m)) },
			withCode(impl.Device{}, -1), false},
		{"PullAll", func(q deviceAsk) []any { return withCode(impl.PullAll(q.l, q.d, q.ms)) },
			func(q deviceAsk) []any { return withCode(modelOf(q.l).pullAll(q.d, q.ms)) },
			withCode(impl.Device{}, -1), false},
		{"Exchange", func(q deviceAsk) []any { return twoDevices(impl.Exchange(q.l, q.d, q.e)) },
			func(q deviceAsk) []any { return twoDevices(modelOf(q.l).exchange(q.d, q.e)) },
			twoDevices(impl.Device{}, impl.Device{}, false), true},
		{"Wants", func(q deviceAsk) []any { return all(impl.Wants(q.l, q.d, q.m)) },
			func(q deviceAsk) []any { return all(modelOf(q.l).wants(q.d, q.m)) }, all(false), false},
		{"Known", func(q deviceAsk) []any { return all(impl.Known(q.d, q.author)) },
			func(q deviceAsk) []any { return all(modelKnown(q.d, q.author)) }, nil, false},
		{"HeadOf", func(q deviceAsk) []any { return withFlag(impl.HeadOf(q.d, q.author)) },
			func(q deviceAsk) []any { return withFlag(modelHead(q.d, q.author)) }, nil, false},
	}...)
}

func writeCalls() []deviceCall {
	noDevice := withFlag(impl.Device{}, false)
	return []deviceCall{
		{"DeviceOk", func(q deviceAsk) []any { return all(impl.DeviceOk(q.l, q.d)) },
			func(q deviceAsk) []any { return all(modelOf(q.l).deviceOk(q.d)) }, all(false), false},
		{"DeviceNew", func(q deviceAsk) []any { return withFlag(impl.DeviceNew(q.author)) },
			func(q deviceAsk) []any { return withFlag(modelNew(q.author)) }, nil, false},
		{"Edit", func(q deviceAsk) []any { return withFlag(impl.Edit(q.l, q.d, q.name, q.val)) },
			func(q deviceAsk) []any { return withFlag(modelOf(q.l).edit(q.d, q.name, q.val)) }, noDevice, false},
		{"Delete", func(q deviceAsk) []any { return withFlag(impl.Delete(q.l, q.d, q.name)) },
			func(q deviceAsk) []any { return withFlag(modelOf(q.l).remove(q.d, q.name)) }, noDevice, false},
		{"Push", func(q deviceAsk) []any { return fourAnswers(impl.Push(q.l, q.d)) },
			func(q deviceAsk) []any { return fourAnswers(modelOf(q.l).push(q.d)) },
			fourAnswers(impl.Ledger{}, impl.Device{}, impl.Manifest{}, false), false},
	}
}

// checkDevices holds every function of the chapter against the model.
func checkDevices(t *testing.T, q deviceAsk) {
	t.Helper()
	for _, f := range deviceCalls() {
		check(t, shown(f.ask(q)...), shown(f.model(q)...), f.name, q)
	}
}

// refusesDevice fails if a function of the chapter tells of bad, which is not
// DeviceOk by l, anything but its fixed answer, on whichever side it stands. What
// else it is asked with is what it would take of a good one.
func refusesDevice(t *testing.T, what string, l impl.Ledger, bad impl.Device) {
	t.Helper()
	refusesInWorld(t, what, l, bad)
	fresh, _ := modelNew(1)
	ms := append([]impl.Manifest{{}}, bad.Heads[:min(len(bad.Heads), 5)]...)
	ms = append(ms, bad.Proof[:min(len(bad.Proof), 5)]...)
	for n, m := range ms {
		q := deviceAsk{l: l, d: bad, e: fresh, m: m, ms: ms[:n], name: []byte("x"), val: 5}
		if len(bad.Tree.L) > 0 {
			q.name = bad.Tree.L[0].Name
		}
		for _, f := range deviceCalls() {
			if f.refusal == nil {
				check(t, shown(f.ask(q)...), shown(f.model(q)...), what+": "+f.name, q)
				continue
			}
			check(t, shown(f.ask(q)...), shown(f.refusal...), what+": "+f.name, q)
			if other := q; f.hasOther {
				other.d, other.e = fresh, bad
				check(t, shown(f.ask(other)...), shown(f.refusal...), what+" as the other one: "+f.name, other)
				other.d = bad
				check(t, shown(f.ask(other)...), shown(f.refusal...), what+" with itself: "+f.name, other)
			}
		}
	}
}

// refusesByLedger fails if a function of the chapter tells of any device, or of what
// it is given, anything but its fixed answer, as l is not LedgerOk.
func refusesByLedger(t *testing.T, what string, l impl.Ledger) {
	t.Helper()
	refusesWorld(t, what, worldOf(l))
	_, two := twoSaid()
	for id := range 2 {
		fresh, _ := modelNew(id)
		refusesDevice(t, what, l, fresh)
	}
	refusesDevice(t, what, l, device(1, two[1].Tree, two[1]))
	refusesDevice(t, what, l, modelWarned(device(0, impl.TreeNew()), two[0], two[1]))
}

// refusesTreeOfDevice fails if a device may have bad, which is not TreeOk.
func refusesTreeOfDevice(t *testing.T, what string, bad impl.Tree) {
	t.Helper()
	l, two := twoSaid()
	for _, d := range []impl.Device{device(0, bad), device(1, bad, two[0])} {
		refusesDevice(t, what, l, d)
	}
}

// refusesToPull fails if a device takes bad, which is not ManifestOk, is turned by
// it, or may have it as a head or as a part of its proof.
func refusesToPull(t *testing.T, what string, l impl.Ledger, bad impl.Manifest, others ...impl.Manifest) {
	t.Helper()
	refusesInStore(t, what, l, bad)
	top := treeOf(vec(1000, 1000, 1000, 1000))
	devices := []impl.Device{device(2, impl.TreeNew())}
	for _, o := range others {
		if modelOf(l).sigOk(o) {
			devices = append(devices, device(o.Author, top, o))
		}
		refusesDevice(t, what+" in a proof", l, modelWarned(device(0, top), bad, o))
		refusesDevice(t, what+" behind in a proof", l, modelWarned(device(0, top), o, bad))
	}
	refusesDevice(t, what+" as a head", l, device(2, top, bad))
	for _, d := range devices {
		after, told := impl.Pull(l, d, bad)
		check(t, shown(after, told), shown(d, impl.PlForm), what+": Pull", l, d, bad)
		after, taken := impl.PullAll(l, d, []impl.Manifest{bad, bad})
		check(t, shown(after, taken), shown(d, 0), what+": PullAll", l, d, bad)
		check(t, shown(impl.Wants(l, d, bad)), "false;", what+": Wants", l, d, bad)
	}
}
