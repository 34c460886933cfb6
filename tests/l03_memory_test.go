package tests

import (
	"testing"

	"loop.example/g00642/impl"
)

// roomyTree has behind the length of each list what would be as good as that
// ahead of it.
func roomyTree(x impl.Tree) impl.Tree {
	var l []impl.Entry
	for _, e := range x.L {
		e.Name = roomyText(e.Name)
		l = append(l, e)
	}
	for at := 1; at <= 3; at++ {
		l = append(l, impl.Entry{Name: roomyText([]byte("zzz")), Val: at, By: 3, At: at})
	}
	v := append(append([]int{}, x.Vec...), 1, 1000, 7)
	return impl.Tree{Vec: v[:len(x.Vec)], L: l[:len(x.L)]}
}

// oneMemory is a tree whose names all stand in one text.
func oneMemory() impl.Tree {
	b := []byte("abcd")
	x := treeOf(vec(3, 0, 0, 2))
	for n := range 3 {
		x.L = append(x.L, impl.Entry{Name: b[n : n+2], Val: n, By: 0, At: n + 1})
	}
	x.L = append(x.L, impl.Entry{Name: b[2:4], Val: 9, By: 3, At: 2})
	x.L = modelSorted(x.L)
	return x
}

func memoryTrees() []impl.Tree {
	tooMany, unlike, less := fullTree(), manyCopies(), manyCopies()
	tooMany.L = append(tooMany.L, wrote("zz", 1, 0, 1))
	unlike.L[0].Val = 6
	less.Vec, less.L = vec(3, 2, 0, 9), less.L[1:3]
	return []impl.Tree{
		impl.TreeNew(), manyCopies(), less, fullTree(), unlike, tooMany, oneMemory(),
		{}, treeOf(vec(1, 1, 1, 1001)), treeOf(vec(1, 0, 0, 0), wrote("a~", 1, 0, 1)), treeOf(vec(1000, 0, 0, 0)),
	}
}

func memoryNames() [][]byte {
	return [][]byte{nil, []byte("b"), []byte("a"), []byte("c"), []byte("z"), []byte("new"), []byte("a~"), []byte("abcdefg"), []byte("bc")}
}

// TestTreesMemory: no function writes into an argument or the room behind it, nor
// reads that room, nor hands any of it out, nor gives one memory twice.
func TestTreesMemory(t *testing.T) {
	for _, plainA := range memoryTrees() {
		for _, plainB := range memoryTrees() {
			a, b := roomyTree(plainA), roomyTree(plainB)
			for _, plainName := range memoryNames() {
				name := roomyText(plainName)
				before := shownWithRoom(a, b, name)
				for by := range 2 {
					q, plain := treeAsk{a, b, by, name, 5}, treeAsk{plainA, plainB, by, plainName, 5}
					checkTreesMemory(t, q, plain)
				}
				check(t, shownWithRoom(a, b, name), before, "something is written into an argument")
			}
		}
	}
}

func (q treeAsk) arguments() []any { return all(q.a, q.b, q.name) }

// checkTreesMemory asks for the same with room behind, without it, and twice.
func checkTreesMemory(t *testing.T, q, plain treeAsk) {
	t.Helper()
	arguments := append(q.arguments(), plain.arguments()...)
	for _, f := range treeCalls() {
		checkMemory(t, f.name, func() []any { return f.ask(q) }, func() []any { return f.ask(plain) }, arguments)
	}
}

// TestTreesOneForBoth: the same tree may be both arguments, and its own name the
// one that is asked for.
func TestTreesOneForBoth(t *testing.T) {
	for _, plain := range memoryTrees() {
		x := roomyTree(plain)
		before := shownWithRoom(x)
		for n := range x.L {
			q := treeAsk{x, x, n % 4, x.L[n].Name, n}
			checkTreesMemory(t, q, treeAsk{plain, plain, n % 4, plain.L[n].Name, n})
			checkTrees(t, q)
		}
		check(t, shownWithRoom(x), before, "something is written into an argument")
	}
}

func TestTreesAnswersAreOwn(t *testing.T) {
	fresh := func() treeAsk { return treeAsk{manyCopies(), manyCopies(), 0, []byte("b"), 8} }
	for _, f := range treeCalls() {
		checkAnswersAreOwn(t, f.name, fresh, f.ask, treeAsk.arguments)
	}
}

func TestTreesNothingIsKept(t *testing.T) {
	trees := memoryTrees()
	checkNothingIsKept(t, trees, func(a impl.Tree) string {
		out := ""
		for _, b := range trees {
			for _, name := range memoryNames() {
				for _, f := range treeCalls() {
					out += shown(f.ask(treeAsk{a, b, 1, name, 5})...)
				}
			}
		}
		return out
	})
}
