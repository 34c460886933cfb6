package tests

import (
	"math"
	"slices"
	"testing"

	"loop.example/g00642/impl"
)

var sweepNames = []string{"a", "b", "ab", "\u00e9", "B", "abcdef", "a~", "", "abcdefg", "\xff"}

func someName(d *dice) []byte {
	if d.below(5) > 0 {
		return []byte(sweepNames[d.below(6)])
	}
	return []byte(sweepNames[d.below(len(sweepNames))])
}

// someTree has deeds of small numbers, so that two of them have many in common.
// What a deed wrote is mostly the same in all of them.
func someTree(d *dice) impl.Tree {
	x := treeOf(vec(d.below(5), d.below(5), d.below(5), d.below(5)))
	for by, most := range x.Vec {
		for at := 1; at <= most && len(x.L) < 12; at++ {
			if d.below(3) == 0 {
				continue
			}
			e := wrote(sweepNames[(by+3*at)%5], 10*by+at, by, at)
			if d.below(40) == 0 {
				e.Val = 999
			}
			x.L = append(x.L, e)
		}
	}
	x.L = modelSorted(x.L)
	return x
}

// turnedTree has one thing changed, mostly to what may not be.
func turnedTree(d *dice, x impl.Tree) impl.Tree {
	numbers := []int{-1, 0, 1, 2, 4, 5, 999, 1000, 1001, math.MinInt, math.MaxInt}
	n := numbers[d.below(len(numbers))]
	if len(x.L) == 0 || d.below(8) == 0 {
		x.Vec = append([]int{}, x.Vec[:d.below(4)]...)
		return x
	}
	i, j := d.below(len(x.L)), d.below(len(x.L))
	switch e := &x.L[i]; d.below(7) {
	case 0:
		e.Val = n
	case 1:
		e.By = n
	case 2:
		e.At = n
	case 3:
		e.Name = someName(d)
	case 4:
		x.L[i], x.L[j] = x.L[j], x.L[i]
	case 5:
		x.Vec[d.below(4)] = n
	default:
		x.L = slices.Insert(x.L, i, x.L[j])
	}
	return x
}

// TestTreesSweep holds every function against the model, at trees that may be and
// at ones that may not.
func TestTreesSweep(t *testing.T) {
	d := &dice{at: 4}
	counts := map[string]int{}
	for round := range 6000 {
		q := treeAsk{a: someTree(d), b: someTree(d), by: d.below(6) - 1, name: someName(d), val: d.below(1002) - 1}
		if round%4 == 0 {
			q.a = turnedTree(d, q.a)
		}
		if round%6 == 0 {
			q.b = turnedTree(d, q.b)
		}
		checkTrees(t, q)
		count := func(what string, yes bool) {
			if yes {
				counts[what]++
			}
		}
		_, put := modelPut(q.a, q.by, q.name, q.val)
		_, dropped := modelDrop(q.a, q.name)
		_, merged := modelMerge(q.a, q.b)
		good := modelTreeOk(q.a) && modelTreeOk(q.b)
		count("put", put)
		count("not put", !put && good)
		count("dropped", dropped)
		count("merged", merged)
		count("not merged", !merged && good)
		count("bad", !good)
		count("copies", modelCopies(q.a) > 2)
	}
	for _, what := range []string{"put", "not put", "dropped", "merged", "not merged", "bad", "copies"} {
		if counts[what] < 300 {
			t.Fatal("the sweep is one-sided", what, counts)
		}
	}
}

// TestTreesLongSweep lets three go on for long, at the limits of deeds and entries.
func TestTreesLongSweep(t *testing.T) {
	d := &dice{at: 5}
	for range 30 {
		trees := []impl.Tree{impl.TreeNew(), impl.TreeNew(), treeOf(vec(990, 1000, 0, 995))}
		for range 120 {
			i, j := d.below(3), d.below(3)
			name := append([]byte(sweepNames[d.below(6)]), 'a'+byte(d.below(3)))
			q := treeAsk{a: trees[i], b: trees[j], by: d.below(4), name: name, val: d.below(1000)}
			checkTrees(t, q)
			next := []func(){
				func() { trees[i] = putOr(q.a, q.by, name, q.val) },
				func() { trees[i], _ = impl.Drop(q.a, name) },
				func() { trees[i] = mergeOr(q.a, q.b) },
			}
			next[max(0, d.below(6)-3)]()
		}
	}
}

// putOr is Put, or x where it refuses.
func putOr(x impl.Tree, by int, name []byte, val int) impl.Tree {
	if y, ok := impl.Put(x, by, name, val); ok {
		return y
	}
	return x
}

func mergeOr(a, b impl.Tree) impl.Tree {
	if m, ok := impl.Merge(a, b); ok {
		return m
	}
	return a
}

// history is what comes of four devices that write, take away, and merge; none
// writes for another. Some trees of each are there.
func history(d *dice) []impl.Tree {
	now := []impl.Tree{impl.TreeNew(), impl.TreeNew(), impl.TreeNew(), impl.TreeNew()}
	var all []impl.Tree
	for range 14 {
		by := d.below(4)
		name := []byte(sweepNames[d.below(6)])
		switch d.below(6) {
		case 0:
			now[by], _ = impl.Drop(now[by], name)
		case 1, 2:
			now[by] = mergeOr(now[by], now[d.below(4)])
		default:
			now[by] = putOr(now[by], by, name, d.below(1000))
		}
		all = append(all, now[by])
	}
	return all
}

func TestPromise3(t *testing.T) {
	d := &dice{at: 6}
	gone := 0
	for range 800 {
		trees := history(d)
		for range 20 {
			a, b, c := trees[d.below(14)], trees[d.below(14)], trees[d.below(14)]
			name := []byte(sweepNames[d.below(6)])
			seenAlone(t, putOr(a, d.below(4), name, 7), name)
			gone += staysAway(t, a, b, name)
			leastAbove(t, a, b, c)
			copiesAndNamesAreAll(t, a)
		}
	}
	if gone < 1000 {
		t.Fatal("the promise is hardly asked for", gone)
	}
}

// seenAlone asks of a tree in which 7 was just written by that name.
func seenAlone(t *testing.T, x impl.Tree, name []byte) {
	t.Helper()
	seen := 0
	for _, f := range impl.View(x) {
		if nameBefore(f.Name) == string(name) {
			check(t, shown(f), shown(impl.File{Name: name, Val: 7}), "what is written is seen alone by its name", x)
			seen++
		}
	}
	n, ok := impl.ValueOf(x, name)
	check(t, shown(seen, n, ok, len(impl.Writers(x, name))), "1;7;true;1;", "what is written is seen", x)
}

// nameBefore gives the name of a file without what a copy has behind it.
func nameBefore(b []byte) string {
	if n := slices.Index(b, '~'); n >= 0 {
		return string(b[:n])
	}
	return string(b)
}

// staysAway takes a name away from a, and tells how many of b it stays behind.
func staysAway(t *testing.T, a, b impl.Tree, name []byte) int {
	t.Helper()
	dropped, ok := impl.Drop(a, name)
	check(t, shown(ok), shown(len(impl.Writers(a, name)) > 0), "Drop", a)
	check(t, shown(impl.Writers(dropped, name), impl.VecUp(dropped.Vec, a.Vec)), shown([]int{}, a.Vec), "what is taken away is not there", a)
	m, merged := impl.Merge(dropped, b)
	if !merged {
		return 0
	}
	gone := 0
	for _, e := range modelNamed(a, name) {
		if modelHas(b, e) {
			gone++
		}
		if modelHas(m, e) {
			t.Fatal("what is taken away stays so behind a merge", a, b, string(name))
		}
	}
	for _, e := range modelNamed(m, name) {
		if e.At <= a.Vec[e.By] {
			t.Fatal("only what was not known can come by that name", a, b, string(name))
		}
	}
	return gone
}

func leastAbove(t *testing.T, a, b, c impl.Tree) {
	t.Helper()
	up := impl.VecUp(a.Vec, b.Vec)
	if !impl.VecOk(up) || !impl.VecBelow(a.Vec, up) || !impl.VecBelow(b.Vec, up) {
		t.Fatal("what two know together is above both", a, b)
	}
	above := impl.VecBelow(a.Vec, c.Vec) && impl.VecBelow(b.Vec, c.Vec)
	check(t, shown(impl.VecBelow(up, c.Vec)), shown(above), "it is the least", a, b, c)
	if m, ok := impl.Merge(a, b); ok {
		check(t, shown(m.Vec), shown(up), "what two know together", a, b)
	}
}

func copiesAndNamesAreAll(t *testing.T, x impl.Tree) {
	t.Helper()
	names, writers := impl.NamesOf(x), 0
	for n, name := range names {
		writers += len(impl.Writers(x, name))
		if n > 0 && string(names[n-1]) >= string(name) {
			t.Fatal("names are ascending", x)
		}
	}
	check(t, shown(impl.Copies(x)+len(names), writers, len(impl.View(x))), shown(len(x.L), len(x.L), len(x.L)), "copies, and names, are all", x)
}

// TestPromise4 merges trees of one history, which may know of anything, and ones
// that are just TreeOk.
func TestPromise4(t *testing.T) {
	d := &dice{at: 8}
	counts := [3]int{}
	for round := range 300 {
		trees := history(d)
		if round%2 == 0 {
			for n := range trees {
				trees[n] = someTree(d)
			}
		}
		for range 20 {
			a, b, c := trees[d.below(14)], trees[d.below(14)], trees[d.below(14)]
			if sameMerged(t, a, b, c) {
				counts[0]++
			}
			if seenByOwnNames(t, a) {
				counts[1]++
			}
			if orderedOneWay(t, a, b, c) {
				counts[2]++
			}
		}
	}
	if slices.Min(counts[:]) < 1000 {
		t.Fatal("the promise is hardly asked for", counts)
	}
}

// sameMerged tells whether there was room for all three.
func sameMerged(t *testing.T, a, b, c impl.Tree) bool {
	t.Helper()
	ab, ok := impl.Merge(a, b)
	ba, same := impl.Merge(b, a)
	check(t, shown(ba, same), shown(ab, ok), "in whatever order", a, b)
	if !ok {
		return false
	}
	check(t, shown(impl.TreeOk(ab), impl.TreeCmp(ab, ba)), "true;0;", "merged", a, b)
	for _, again := range []impl.Tree{a, b, ab} {
		m, ok := impl.Merge(ab, again)
		check(t, shown(m, ok), shown(ab, true), "merged again", a, b)
	}
	bc, fine := impl.Merge(b, c)
	left, okLeft := impl.Merge(ab, c)
	right, okRight := impl.Merge(a, bc)
	if !fine || !okLeft || !okRight {
		return false
	}
	check(t, shown(left), shown(right), "three in whatever order", a, b, c)
	return true
}

// seenByOwnNames tells whether there are copies.
func seenByOwnNames(t *testing.T, x impl.Tree) bool {
	t.Helper()
	seen := map[string]bool{}
	for _, f := range impl.View(x) {
		if seen[string(f.Name)] {
			t.Fatal("files are seen by names of their own", x)
		}
		seen[string(f.Name)] = true
	}
	return impl.Copies(x) > 0
}

// orderedOneWay tells whether all three are unlike.
func orderedOneWay(t *testing.T, a, b, c impl.Tree) bool {
	t.Helper()
	ab, bc, ac := impl.TreeCmp(a, b), impl.TreeCmp(b, c), impl.TreeCmp(a, c)
	check(t, shown(impl.TreeCmp(b, a), impl.TreeCmp(a, a)), shown(-ab, 0), "there is one order", a, b)
	check(t, shown(ab == 0), shown(shown(a) == shown(b)), "only what is the same is at one place", a, b)
	if ab == bc && ac != ab {
		t.Fatal("what is above one is above those below it", a, b, c)
	}
	for n := 1; n < len(a.L); n++ {
		x := treeOf(a.Vec, slices.Clone(a.L)...)
		x.L[n-1], x.L[n] = x.L[n], x.L[n-1]
		check(t, shown(impl.TreeOk(x)), "false;", "entries are in order one way", x)
	}
	return ab != 0 && bc != 0 && ac != 0
}
