package tests

import (
	"bytes"
	"fmt"
	"slices"
	"testing"
	"unicode/utf8"

	"loop.example/g00642/impl"
)

// What chapter 3 says, written down once more, as directly as can be: every entry
// is held against every other one, and put where it belongs one by one.

func modelNameOk(b []byte) bool {
	n := utf8.RuneCount(b)
	if !utf8.Valid(b) || n < 1 || n > 6 || bytes.ContainsAny(b, "/~\ufffd") {
		return false
	}
	for _, c := range b {
		if c <= 32 {
			return false
		}
	}
	return true
}

func modelVecOk(v []int) bool {
	for _, n := range v {
		if n < 0 || n > 1000 {
			return false
		}
	}
	return len(v) == 4
}

func modelVecUp(a, b []int) []int {
	if !modelVecOk(a) || !modelVecOk(b) {
		return nil
	}
	return []int{max(a[0], b[0]), max(a[1], b[1]), max(a[2], b[2]), max(a[3], b[3])}
}

func modelVecBelow(a, b []int) bool {
	return modelVecOk(a) && modelVecOk(b) && a[0] <= b[0] && a[1] <= b[1] && a[2] <= b[2] && a[3] <= b[3]
}

func modelAhead(e, f impl.Entry) bool {
	if string(e.Name) != string(f.Name) {
		return string(e.Name) < string(f.Name)
	}
	if e.At != f.At {
		return e.At > f.At
	}
	return e.By < f.By
}

func modelSameDeed(e, f impl.Entry) bool { return e.By == f.By && e.At == f.At }

func modelSameEntry(e, f impl.Entry) bool {
	return modelSameDeed(e, f) && string(e.Name) == string(f.Name) && e.Val == f.Val
}

func modelEntryOk(v []int, e impl.Entry) bool {
	return modelNameOk(e.Name) && e.Val >= 0 && e.Val <= 999 && e.By >= 0 && e.By < 4 && e.At >= 1 && e.At <= v[e.By]
}

func modelTreeOk(x impl.Tree) bool {
	if !modelVecOk(x.Vec) || len(x.L) > 12 {
		return false
	}
	for n, e := range x.L {
		if !modelEntryOk(x.Vec, e) {
			return false
		}
		for _, f := range x.L[:n] {
			if modelSameDeed(e, f) || !modelAhead(f, e) {
				return false
			}
		}
	}
	return true
}

// modelSorted puts each in front of the first one that it is ahead of.
func modelSorted(list []impl.Entry) []impl.Entry {
	var out []impl.Entry
	for _, e := range list {
		n := 0
		for n < len(out) && !modelAhead(e, out[n]) {
			n++
		}
		out = slices.Insert(out, n, e)
	}
	return out
}

func modelIfOk(x impl.Tree) (impl.Tree, bool) {
	x.L = modelSorted(x.L)
	if !modelTreeOk(x) {
		return impl.Tree{}, false
	}
	return x, true
}

func modelWithout(list []impl.Entry, name []byte) []impl.Entry {
	var out []impl.Entry
	for _, e := range list {
		if string(e.Name) != string(name) {
			out = append(out, e)
		}
	}
	return out
}

func modelPut(x impl.Tree, by int, name []byte, val int) (impl.Tree, bool) {
	if !modelTreeOk(x) || by < 0 || by > 3 || !modelNameOk(name) || val < 0 || val > 999 {
		return impl.Tree{}, false
	}
	v := slices.Clone(x.Vec)
	v[by]++
	e := impl.Entry{Name: name, Val: val, By: by, At: v[by]}
	return modelIfOk(impl.Tree{Vec: v, L: append(modelWithout(x.L, name), e)})
}

func modelDrop(x impl.Tree, name []byte) (impl.Tree, bool) {
	if !modelTreeOk(x) {
		return impl.Tree{}, false
	}
	rest := modelWithout(x.L, name)
	return impl.Tree{Vec: x.Vec, L: rest}, len(rest) != len(x.L)
}

func modelHas(x impl.Tree, e impl.Entry) bool {
	return slices.ContainsFunc(x.L, func(f impl.Entry) bool { return modelSameEntry(e, f) })
}

func modelMerge(a, b impl.Tree) (impl.Tree, bool) {
	if !modelTreeOk(a) || !modelTreeOk(b) {
		return impl.Tree{}, false
	}
	var out []impl.Entry
	for _, e := range a.L {
		for _, f := range b.L {
			if modelSameDeed(e, f) && !modelSameEntry(e, f) {
				return impl.Tree{}, false
			}
		}
		if modelHas(b, e) || e.At > b.Vec[e.By] {
			out = append(out, e)
		}
	}
	for _, f := range b.L {
		if !modelHas(a, f) && f.At > a.Vec[f.By] {
			out = append(out, f)
		}
	}
	return modelIfOk(impl.Tree{Vec: modelVecUp(a.Vec, b.Vec), L: out})
}

// modelBytes writes numbers in hexadecimal, so that their order is the bytes' order.
func modelBytes(x impl.Tree) string {
	out := ""
	for _, n := range x.Vec {
		out += fmt.Sprintf("%04x", n)
	}
	out += fmt.Sprintf("%02x", len(x.L))
	for _, e := range x.L {
		out += fmt.Sprintf("%02x%x%04x%02x%04x", len(e.Name), e.Name, e.Val, e.By, e.At)
	}
	return out
}

func modelCmp(a, b impl.Tree) int {
	if !modelTreeOk(a) || !modelTreeOk(b) || modelBytes(a) == modelBytes(b) {
		return 0
	}
	if modelBytes(a) < modelBytes(b) {
		return -1
	}
	return 1
}

func modelNames(x impl.Tree) [][]byte {
	var out [][]byte
	for _, e := range x.L {
		if modelTreeOk(x) && !slices.ContainsFunc(out, func(n []byte) bool { return string(n) == string(e.Name) }) {
			out = append(out, e.Name)
		}
	}
	return out
}

func modelView(x impl.Tree) []impl.File {
	var out []impl.File
	seen := map[string]bool{}
	for _, e := range x.L {
		name := string(e.Name)
		if seen[name] {
			name = fmt.Sprintf("%s~%d.%d", name, e.By, e.At)
		}
		seen[string(e.Name)] = true
		if modelTreeOk(x) {
			out = append(out, impl.File{Name: []byte(name), Val: e.Val})
		}
	}
	return out
}

// modelNamed gives the entries of that name, of a tree that is TreeOk.
func modelNamed(x impl.Tree, name []byte) []impl.Entry {
	var out []impl.Entry
	for _, e := range x.L {
		if modelTreeOk(x) && string(e.Name) == string(name) {
			out = append(out, e)
		}
	}
	return out
}

func modelValueOf(x impl.Tree, name []byte) (int, bool) {
	for _, e := range modelNamed(x, name) {
		return e.Val, true
	}
	return 0, false
}

func modelWriters(x impl.Tree, name []byte) []int {
	var out []int
	for _, e := range modelNamed(x, name) {
		out = append(out, e.By)
	}
	return out
}

func modelCopies(x impl.Tree) int {
	if !modelTreeOk(x) {
		return -1
	}
	return len(x.L) - len(modelNames(x))
}

// treeAsk is what a function of the chapter may be asked with.
type treeAsk struct {
	a, b impl.Tree
	by   int
	name []byte
	val  int
}

// treeCall is one function of the chapter: how it is asked, and what the model
// says, each with all its answers as a list. Refusal is what it tells where a, or
// one of both trees, is not TreeOk; a function without trees has none.
type treeCall struct {
	name    string
	ask     func(q treeAsk) []any
	model   func(q treeAsk) []any
	refusal []any
	both    bool
}

func all(answers ...any) []any { return answers }

func withFlag[T any](x T, ok bool) []any { return []any{x, ok} }

func listCalls() []treeCall {
	return []treeCall{
		{name: "NameOk", ask: func(q treeAsk) []any { return all(impl.NameOk(q.name)) },
			model: func(q treeAsk) []any { return all(modelNameOk(q.name)) }},
		{name: "VecOk", ask: func(q treeAsk) []any { return all(impl.VecOk(q.a.Vec)) },
			model: func(q treeAsk) []any { return all(modelVecOk(q.a.Vec)) }},
		{name: "VecUp", ask: func(q treeAsk) []any { return all(impl.VecUp(q.a.Vec, q.b.Vec)) },
			model: func(q treeAsk) []any { return all(modelVecUp(q.a.Vec, q.b.Vec)) }},
		{name: "VecBelow", ask: func(q treeAsk) []any { return all(impl.VecBelow(q.a.Vec, q.b.Vec)) },
			model: func(q treeAsk) []any { return all(modelVecBelow(q.a.Vec, q.b.Vec)) }},
		{name: "TreeNew", ask: func(q treeAsk) []any { return all(impl.TreeNew()) },
			model: func(q treeAsk) []any { return all(impl.Tree{Vec: []int{0, 0, 0, 0}}) }},
	}
}

func treeCalls() []treeCall {
	noTree := withFlag(impl.Tree{}, false)
	return append(listCalls(), []treeCall{
		{"TreeOk", func(q treeAsk) []any { return all(impl.TreeOk(q.a)) },
			func(q treeAsk) []any { return all(modelTreeOk(q.a)) }, all(false), false},
		{"Put", func(q treeAsk) []any { return withFlag(impl.Put(q.a, q.by, q.name, q.val)) },
			func(q treeAsk) []any { return withFlag(modelPut(q.a, q.by, q.name, q.val)) }, noTree, false},
		{"Drop", func(q treeAsk) []any { return withFlag(impl.Drop(q.a, q.name)) },
			func(q treeAsk) []any { return withFlag(modelDrop(q.a, q.name)) }, noTree, false},
		{"Merge", func(q treeAsk) []any { return withFlag(impl.Merge(q.a, q.b)) },
			func(q treeAsk) []any { return withFlag(modelMerge(q.a, q.b)) }, noTree, true},
		{"View", func(q treeAsk) []any { return all(impl.View(q.a)) },
			func(q treeAsk) []any { return all(modelView(q.a)) }, all([]impl.File{}), false},
		{"TreeCmp", func(q treeAsk) []any { return all(impl.TreeCmp(q.a, q.b)) },
			func(q treeAsk) []any { return all(modelCmp(q.a, q.b)) }, all(0), true},
		{"NamesOf", func(q treeAsk) []any { return all(impl.NamesOf(q.a)) },
			func(q treeAsk) []any { return all(modelNames(q.a)) }, all([][]byte{}), false},
		{"Copies", func(q treeAsk) []any { return all(impl.Copies(q.a)) },
			func(q treeAsk) []any { return all(modelCopies(q.a)) }, all(-1), false},
		{"ValueOf", func(q treeAsk) []any { return withFlag(impl.ValueOf(q.a, q.name)) },
			func(q treeAsk) []any { return withFlag(modelValueOf(q.a, q.name)) }, withFlag(0, false), false},
		{"Writers", func(q treeAsk) []any { return all(impl.Writers(q.a, q.name)) },
			func(q treeAsk) []any { return all(modelWriters(q.a, q.name)) }, all([]int{}), false},
	}...)
}

// checkTrees holds every function of the chapter against the model.
func checkTrees(t *testing.T, q treeAsk) {
	t.Helper()
	for _, f := range treeCalls() {
		check(t, shown(f.ask(q)...), shown(f.model(q)...), f.name, q)
	}
}

// refusesTree fails if a function of the chapter tells of bad, which is not TreeOk,
// anything but its fixed answer, on whichever side it stands.
func refusesTree(t *testing.T, what string, bad impl.Tree) {
	t.Helper()
	refusesManifest(t, what, said(0, 1, 0, bad, 0))
	refusesTreeOfDevice(t, what, bad)
	names := [][]byte{[]byte("x"), []byte("new"), nil}
	for _, e := range bad.L {
		names = append(names, e.Name)
	}
	for _, name := range names {
		for _, other := range []impl.Tree{impl.TreeNew(), bad, manyCopies()} {
			for _, f := range treeCalls() {
				if f.refusal == nil {
					continue
				}
				q := treeAsk{a: bad, b: other, by: 1, name: name, val: 1}
				check(t, shown(f.ask(q)...), shown(f.refusal...), what+": "+f.name, q)
				if q.a, q.b = other, bad; f.both {
					check(t, shown(f.ask(q)...), shown(f.refusal...), what+" as the other one: "+f.name, q)
				}
			}
		}
	}
}
