package tests

import (
	"math"
	"slices"
	"testing"

	"loop.example/g00642/impl"
)

// crowd is all devices, a ledger, and what a relay has: what they said, and what
// somebody said who knows their keys. It goes on as the model says.
type crowd struct {
	l     impl.Ledger
	devs  []impl.Device
	store []impl.Manifest
}

func newCrowd() *crowd {
	return &crowd{devs: []impl.Device{fresh(0), fresh(1), fresh(2), fresh(3)}}
}

// act lets one device do something.
func (c *crowd) act(d *dice, leaks bool) {
	w, by := modelOf(c.l), d.below(4)
	name := []byte(sweepNames[d.below(6)])
	switch kind := d.below(24); {
	case kind < 7:
		c.keep(w.edit(c.devs[by], name, d.below(1000)))
	case kind == 7:
		c.keep(w.remove(c.devs[by], name))
	case kind < 12:
		if l, x, m, ok := w.push(c.devs[by]); ok {
			c.l, c.devs[by], c.store = l, x, append(c.store, m)
		}
	case kind < 21 && len(c.store) > 0:
		x, _ := w.pull(c.devs[by], c.store[d.below(len(c.store))])
		c.keep(x, true)
	case kind < 23 && leaks:
		c.leak(d)
	case leaks:
		a, b, _ := w.exchange(c.devs[by], c.devs[(by+1)%4])
		c.keep(a, true)
		c.keep(b, true)
	}
}

func (c *crowd) keep(x impl.Device, ok bool) {
	if ok {
		c.devs[x.Id] = x
	}
}

// leak says something in the name of a device.
func (c *crowd) leak(d *dice) {
	if l, m, ok := modelOf(c.l).signed(someSaid(d, c.l, c.store)); ok {
		c.l, c.store = l, append(c.store, m)
	}
}

// given is something that the relay can make: old, another one's, turned, or signed
// by nobody.
func (c *crowd) given(d *dice) impl.Manifest {
	if len(c.store) == 0 || d.below(12) == 0 {
		return someSaid(d, c.l, c.store)
	}
	m := c.store[d.below(len(c.store))]
	if d.below(5) == 0 {
		return turnedSaid(d, m)
	}
	return m
}

func (c *crowd) manyGiven(d *dice) []impl.Manifest {
	if d.below(4) == 0 {
		return c.store
	}
	var out []impl.Manifest
	for range d.below(8) {
		out = append(out, c.given(d))
	}
	return out
}

// turnedDevice has one thing changed, mostly to what may not be.
func (c *crowd) turnedDevice(d *dice, x impl.Device) impl.Device {
	numbers := []int{-1, 0, 1, 3, 4, math.MinInt, math.MaxInt}
	x.Heads, x.Proof = slices.Clone(x.Heads), slices.Clone(x.Proof)
	at := d.below(len(x.Heads) + 1)
	switch d.below(10) {
	case 0:
		x.Id = numbers[d.below(len(numbers))]
	case 1:
		x.Tree = turnedTree(d, ownTree(x.Tree))
	case 2:
		x.Tree = someTree(d)
	case 3, 4:
		x.Heads = slices.Insert(x.Heads, at, c.given(d))
	case 5:
		if at < len(x.Heads) {
			x.Heads[at] = turnedSaid(d, x.Heads[at])
		}
	case 6:
		slices.Reverse(x.Heads)
	case 7:
		x.Alarm = !x.Alarm
	case 8:
		x.Proof = append(x.Proof, c.given(d))
	default:
		x.Alarm, x.Proof = true, []impl.Manifest{c.given(d), c.given(d)}
	}
	return x
}

func (c *crowd) someAsk(d *dice) deviceAsk {
	i, j := d.below(4), d.below(4)
	q := deviceAsk{l: c.l, d: c.devs[i], e: c.devs[j], m: c.given(d), ms: c.manyGiven(d)}
	q.name, q.val, q.author = someName(d), d.below(1010)-5, d.below(6)-1
	switch d.below(10) {
	case 0, 1:
		q.d = c.turnedDevice(d, q.d)
	case 2:
		q.e = c.turnedDevice(d, q.e)
	case 3:
		if len(q.l.L) > 0 {
			q.l.L = slices.Clone(q.l.L)
			n := d.below(len(q.l.L))
			q.l.L[n] = turned(d, q.l.L[n])
		}
	}
	return q
}

// TestDevicesSweep holds every function against the model, in crowds with leaks and
// without.
func TestDevicesSweep(t *testing.T) {
	d := &dice{at: 12}
	counts := map[string]int{}
	for round := range 200 {
		c := newCrowd()
		for range 40 {
			c.act(d, round%3 > 0)
			for range 2 {
				q := c.someAsk(d)
				checkDevices(t, q)
				countDevices(counts, q)
			}
		}
	}
	for _, what := range []string{"bad ledger", "bad device", "edited", "not edited", "deleted", "pushed", "behind a head", "not pushed", "forked", "not forked",
		"taken", "old", "gap", "sig", "fork", "alarm", "clash", "form", "some taken", "many taken"} {
		if counts[what] < 50 {
			t.Fatal("the sweep is one-sided: ", what, counts)
		}
	}
}

func countDevices(counts map[string]int, q deviceAsk) {
	count := func(what string, yes bool) {
		if yes {
			counts[what]++
		}
	}
	w := modelOf(q.l)
	good := w.deviceOk(q.d)
	_, edited := w.edit(q.d, q.name, q.val)
	_, deleted := w.remove(q.d, q.name)
	_, _, m, pushed := w.push(q.d)
	_, _, forked := w.exchange(q.d, q.e)
	_, taken := w.pullAll(q.d, q.ms)
	count("bad ledger", !w.ok)
	count("bad device", w.ok && !good)
	count("edited", edited)
	count("not edited", good && !edited)
	count("deleted", deleted)
	count("pushed", pushed)
	count("behind a head", m.Seq > 1)
	count("not pushed", good && !pushed)
	count("forked", forked)
	count("not forked", good && w.deviceOk(q.e) && !forked)
	count("some taken", taken > 0)
	count("many taken", taken > 2)
	if _, told := w.pull(q.d, q.m); told >= 0 {
		counts[[]string{"taken", "old", "gap", "sig", "fork", "alarm", "clash", "form"}[told]]++
	}
}

func TestPromise6(t *testing.T) {
	d := &dice{at: 13}
	counts := make([]int, 10)
	for round := range 200 {
		c := newCrowd()
		for range 40 {
			c.act(d, round%2 == 0)
			for _, x := range c.devs {
				counts[knowsNoLess(t, c.l, x, c.given(d))]++
				knowsNoLessBehindAll(t, c.l, x, c.manyGiven(d))
				if saysWhatItHas(t, c.l, x) {
					counts[8]++
				}
			}
		}
	}
	if slices.Min(counts[:9]) < 50 {
		t.Fatal("the promise is hardly asked for", counts)
	}
}

// knowsNoLess gives d something, and gives what is told.
func knowsNoLess(t *testing.T, l impl.Ledger, d impl.Device, m impl.Manifest) int {
	t.Helper()
	after, told := impl.Pull(l, d, m)
	check(t, shown(impl.Wants(l, d, m)), shown(told == impl.PlTaken), "what it wants it takes", d, m)
	stillKnown(t, l, d, after)
	if told == impl.PlTaken {
		head, has := impl.HeadOf(after, m.Author)
		check(t, shown(head, has, impl.Wants(l, after, m)), shown(m, true, false), "what is taken is had", d, m)
		check(t, shown(impl.VecUp(d.Tree.Vec, m.Tree.Vec)), shown(after.Tree.Vec), "what is taken is known", d, m)
		return told
	}
	if told == impl.PlFork {
		check(t, shown(after.Alarm, d.Alarm), "true;false;", "there is an alarm", d, m)
		after.Alarm, after.Proof = false, nil
	}
	check(t, shown(after), shown(d), "what is not taken turns nothing", d, m)
	return told
}

func knowsNoLessBehindAll(t *testing.T, l impl.Ledger, d impl.Device, ms []impl.Manifest) {
	t.Helper()
	after, taken := impl.PullAll(l, d, ms)
	stillKnown(t, l, d, after)
	more := 0
	for author := range 4 {
		more += impl.Known(after, author) - impl.Known(d, author)
	}
	check(t, shown(more), shown(taken), "each that is taken is one more", d, ms)
	one := d
	for _, m := range ms {
		one, _ = impl.Pull(l, one, m)
	}
	check(t, shown(after), shown(one), "one over the other", d, ms)
}

// stillKnown asks of what device d has become by what it was given.
func stillKnown(t *testing.T, l impl.Ledger, d, after impl.Device) {
	t.Helper()
	check(t, shown(impl.DeviceOk(l, after), after.Id), shown(true, d.Id), "it may be", d, after)
	if !impl.VecBelow(d.Tree.Vec, after.Tree.Vec) || d.Alarm && !after.Alarm {
		t.Fatal("a device knows less", d, after)
	}
	for author := range 4 {
		if impl.Known(after, author) < impl.Known(d, author) {
			t.Fatal("a device knows less of an author", d, after)
		}
	}
}

// saysWhatItHas tells whether d can say anything.
func saysWhatItHas(t *testing.T, l impl.Ledger, d impl.Device) bool {
	t.Helper()
	before, had := impl.HeadOf(d, d.Id)
	more, after, m, ok := impl.Push(l, d)
	if !ok {
		return false
	}
	check(t, shown(m.Author, m.Seq, m.Tree), shown(d.Id, impl.Known(d, d.Id)+1, d.Tree), "what a device says it has", d)
	check(t, shown(impl.SigOk(more, m), impl.Follows(more, before, m)), shown(true, had), "it is signed, right behind", d)
	head, has := impl.HeadOf(after, d.Id)
	check(t, shown(head, has, after.Tree, impl.DeviceOk(more, after)), shown(m, true, d.Tree, true), "it is its head then", d)
	for author := range 4 {
		if author != d.Id {
			check(t, shown(impl.Known(after, author)), shown(impl.Known(d, author)), "other heads stay", d)
		}
	}
	return true
}

// TestPromise7: two of a crowd take unlike things, that somebody said at one place,
// and meet then. Before that nobody said any two unlike things.
func TestPromise7(t *testing.T) {
	d := &dice{at: 14}
	met := 0
	for range 400 {
		c := newCrowd()
		for range d.below(40) {
			c.act(d, false)
		}
		for range 10 {
			if unlikeToldTo(t, d, c, d.below(4), d.below(4), d.below(4)) {
				met++
			}
		}
	}
	if met < 500 {
		t.Fatal("the promise is hardly asked for", met)
	}
}

// unlikeToldTo tells whether both took what they were given.
func unlikeToldTo(t *testing.T, d *dice, c *crowd, author, i, j int) bool {
	t.Helper()
	x := behindHead(d, c, c.devs[i], author)
	y := behindHead(d, c, c.devs[j], author)
	l, x, okX := impl.Signed(c.l, x)
	l, y, okY := impl.Signed(l, y)
	a, toldA := impl.Pull(l, c.devs[i], x)
	b, toldB := impl.Pull(l, c.devs[j], y)
	if !okX || !okY || toldA != impl.PlTaken || toldB != impl.PlTaken || x.Seq != y.Seq || shown(x) == shown(y) {
		return false
	}
	knowTogether(t, d, c, l, a, b, x, y)
	told, fork := impl.Pull(l, a, y)
	check(t, shown(told, fork), shown(modelWarned(a, x, y), impl.PlFork), "one who is told both", a, y)
	return true
}

// behindHead is right behind what x has of that author, by one who knows its key.
func behindHead(d *dice, c *crowd, x impl.Device, author int) impl.Manifest {
	m := said(author, 1, 0, x.Tree, 0)
	if head, has := impl.HeadOf(x, author); has {
		m = said(author, head.Seq+1, impl.Body(c.l, head)+1, x.Tree, 0)
	}
	m.Tree = putOr(m.Tree, author, []byte(sweepNames[d.below(6)]), d.below(1000))
	if len(m.Tree.L) > 8 {
		m.Tree.L = m.Tree.L[:8]
	}
	return m
}

// knowTogether lets a, who took x, meet b, who took y.
func knowTogether(t *testing.T, d *dice, c *crowd, l impl.Ledger, a, b impl.Device, x, y impl.Manifest) {
	t.Helper()
	p, q, know := impl.Exchange(l, a, b)
	check(t, shown(p, q, know), shown(modelWarned(a, x, y), modelWarned(b, x, y), true), "they know it when they meet", a, b)
	s, r, know := impl.Exchange(l, b, a)
	check(t, shown(r, s, know), shown(modelWarned(a, y, x), modelWarned(b, y, x), true), "the other way", a, b)
	check(t, shown(impl.DeviceOk(l, p), impl.DeviceOk(l, q), impl.Forked(l, p.Proof[0], p.Proof[1])), "true;true;true;", "it is a proof", a, b)
	for _, m := range append(c.manyGiven(d), x, y) {
		after, _ := impl.Pull(l, p, m)
		check(t, shown(after), shown(p), "the proof is kept behind Pull", m)
	}
	after, taken := impl.PullAll(l, q, c.manyGiven(d))
	check(t, shown(after, taken), shown(q, 0), "the proof is kept behind PullAll", q)
	for _, other := range append(slices.Clone(c.devs), a, b, r, s) {
		first, _, _ := impl.Exchange(l, p, other)
		_, second, _ := impl.Exchange(l, other, q)
		check(t, shown(first, second), shown(p, q), "the proof is kept behind Exchange", other)
	}
}
