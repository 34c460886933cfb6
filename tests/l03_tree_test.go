package tests

import (
	"math"
	"slices"
	"strings"
	"testing"

	"loop.example/g00642/impl"
)

// wrote is an entry of that name and value: the deed at of the device by.
func wrote(name string, val, by, at int) impl.Entry {
	return impl.Entry{Name: []byte(name), Val: val, By: by, At: at}
}

func vec(a, b, c, d int) []int { return []int{a, b, c, d} }

func treeOf(v []int, entries ...impl.Entry) impl.Tree { return impl.Tree{Vec: v, L: entries} }

// manyCopies has a name with three entries, one with two, and three with one.
func manyCopies() impl.Tree {
	return treeOf(vec(4, 2, 1, 9),
		wrote("a", 5, 1, 2),
		wrote("b", 1, 0, 3), wrote("b", 2, 1, 1), wrote("b", 7, 2, 1),
		wrote("ba", 3, 3, 9),
		wrote("b\u00e9", 0, 0, 1),
		wrote("c", 999, 3, 8), wrote("c", 4, 0, 2))
}

// fullTree has as many entries as may be, each with a name of its own, but for the
// last three, which are all named z.
func fullTree() impl.Tree {
	x := treeOf(vec(9, 1, 1, 1))
	for n := range 9 {
		x.L = append(x.L, wrote(string(rune('a'+n)), n, 0, n+1))
	}
	for by := 1; by < 4; by++ {
		x.L = append(x.L, wrote("z", by, by, 1))
	}
	return x
}

func files(nameAndVal ...any) []impl.File {
	var out []impl.File
	for n := 0; n < len(nameAndVal); n += 2 {
		out = append(out, impl.File{Name: []byte(nameAndVal[n].(string)), Val: nameAndVal[n+1].(int)})
	}
	return out
}

func namesAsBytes(names ...string) [][]byte {
	var out [][]byte
	for _, n := range names {
		out = append(out, []byte(n))
	}
	return out
}

func goodNames() []string {
	return []string{
		"a", "abcdef", "\u00e9", "\u00e9\u00e9\u00e9\u00e9\u00e9\u00e9", "\u4e2d", "\u4e2d\u4e2d\u4e2d\u4e2d\u4e2d\u4e2d",
		"\U0001f600", "\U0001f600\U0001f600\U0001f600\U0001f600\U0001f600\U0001f600",
		"a\u00e9\u4e2d\U0001f600b\u00e9", "!", "!!!!!!", ".", "0", "}", "\x7f", "\\", "..", "\u0080", "\u0085", "\u00a0",
		"\u07ff", "\u0800", "\ud7ff", "\ue000", "\ufffc", "\ufffe", "\uffff", "\U00010000", "\U0010ffff",
		"\u0301", "\u200b", "\u3000", "\ufeff", "A", "a.txt",
	}
}

func badNames() []string {
	return []string{
		"", "abcdefg", "\u00e9\u00e9\u00e9\u00e9\u00e9\u00e9\u00e9", "\u4e2d\u4e2d\u4e2d\u4e2d\u4e2d\u4e2d\u4e2d",
		"\U0001f600\U0001f600\U0001f600\U0001f600\U0001f600\U0001f600\U0001f600", "abcdef\u00e9", "\U0001f600\U0001f600\U0001f600\U0001f600\U0001f600\U0001f600a",
		" ", "a b", " a", "a ", "\x00", "a\x00", "\x1f", "\n", "\ta", "/", "a/", "/a", "a/b", "~", "a~", "~a", "abcde~", "abcde/", "abcde ",
		"\ufffd", "a\ufffd", "\ufffda", "abcde\ufffd",
		"\xff", "\xfe", "a\xff", "\xffa", "abcde\xff", "\x80", "\xbf", "a\x80", "\xc3", "a\xc3", "\xc3a", "\xe4\xb8", "\xe4\xb8a", "\xf0\x9f\x98", "\xf0\x9f\x98a",
		"\xed\xa0\x80", "\xed\xaf\xbf", "\xed\xb0\x80", "\xed\xbf\xbf", "\xed\xa0\xbd\xed\xb8\x80", "a\xed\xa0\x80b",
		"\xc0\x80", "\xc0\xaf", "\xc1\xa1", "\xc1\xbf", "\xe0\x80\xaf", "\xe0\x81\xa1", "\xe0\x9f\xbf", "\xf0\x80\x80\xaf", "\xf0\x80\x81\xa1", "\xf0\x8f\xbf\xbf",
		"\xf4\x90\x80\x80", "\xf5\x80\x80\x80", "\xf8\x88\x80\x80\x80", "\xfc\x84\x80\x80\x80\x80", "\xef\xbf",
		strings.Repeat("a", 24), strings.Repeat("a", 25), strings.Repeat("\U0001f600", 200), strings.Repeat("\x80", 6),
	}
}

func TestTreesNames(t *testing.T) {
	check(t, shown(impl.MaxRunes, impl.MaxFiles, impl.Devices), "6;12;4;", "the limits")
	for _, name := range goodNames() {
		b := []byte(name)
		check(t, shown(impl.NameOk(b)), "true;", "NameOk", name)
		x, ok := impl.Put(impl.TreeNew(), 3, b, 8)
		check(t, shown(x, ok), shown(treeOf(vec(0, 0, 0, 1), wrote(name, 8, 3, 1)), true), "Put", name)
		check(t, shown(impl.TreeOk(x), impl.NamesOf(x), impl.View(x)), shown(true, namesAsBytes(name), files(name, 8)), "behind Put", name)
	}
	for _, name := range badNames() {
		b := []byte(name)
		check(t, shown(impl.NameOk(b)), "false;", "NameOk", name)
		x, ok := impl.Put(manyCopies(), 3, b, 8)
		check(t, shown(x, ok), shown(impl.Tree{}, false), "Put", name)
		x, ok = impl.Drop(manyCopies(), b)
		check(t, shown(x, ok), shown(manyCopies(), false), "Drop", name)
		n, ok := impl.ValueOf(manyCopies(), b)
		check(t, shown(n, ok, impl.Writers(manyCopies(), b)), shown(0, false, []int{}), "ValueOf, Writers", name)
		refusesTree(t, shown("a name", b), treeOf(vec(1, 0, 0, 0), wrote(name, 8, 0, 1)))
	}
	check(t, shown(impl.NameOk(nil)), "false;", "NameOk of nil")
}

// TestTreesRunes asks for every rune there is, and for every byte alone.
func TestTreesRunes(t *testing.T) {
	for r := rune(0); r <= 0x10ffff+1; r++ {
		// What is no rune is written as the one of number 65533.
		written := []byte(string(r))
		want := r > 32 && r != '/' && r != '~' && string(written) != "\ufffd"
		if impl.NameOk(written) != want || impl.NameOk(append([]byte("ab"), written...)) != want {
			t.Fatal("rune", r, want)
		}
	}
	for c := range 256 {
		want := c > 32 && c != '/' && c != '~' && c < 128
		if impl.NameOk([]byte{byte(c)}) != want || impl.NameOk([]byte{'a', byte(c), 'b'}) != want {
			t.Fatal("byte", c, want)
		}
	}
}

func TestTreesVectors(t *testing.T) {
	rows := []struct{ a, b, up []int }{
		{vec(0, 0, 0, 0), vec(0, 0, 0, 0), vec(0, 0, 0, 0)},
		{vec(1, 0, 3, 0), vec(0, 2, 3, 0), vec(1, 2, 3, 0)},
		{vec(1, 2, 3, 4), vec(4, 3, 2, 1), vec(4, 3, 3, 4)},
		{vec(1, 2, 3, 4), vec(1, 2, 3, 5), vec(1, 2, 3, 5)},
		{vec(1, 2, 3, 4), vec(2, 2, 3, 4), vec(2, 2, 3, 4)},
		{vec(1000, 0, 1000, 0), vec(0, 1000, 999, 1000), vec(1000, 1000, 1000, 1000)},
		{vec(1000, 1000, 1000, 1000), vec(0, 0, 0, 0), vec(1000, 1000, 1000, 1000)},
	}
	for _, r := range rows {
		aBelow, bBelow := shown(r.b) == shown(r.up), shown(r.a) == shown(r.up)
		check(t, shown(impl.VecOk(r.a), impl.VecOk(r.b)), "true;true;", "VecOk", r.a, r.b)
		check(t, shown(impl.VecUp(r.a, r.b), impl.VecUp(r.b, r.a)), shown(r.up, r.up), "VecUp", r.a, r.b)
		check(t, shown(impl.VecBelow(r.a, r.b), impl.VecBelow(r.b, r.a)), shown(aBelow, bBelow), "VecBelow", r.a, r.b)
		check(t, shown(impl.VecBelow(r.a, r.up), impl.VecBelow(r.b, r.up)), "true;true;", "VecBelow what is above", r.a, r.b)
	}
	for n := range 4 {
		more := vec(5, 5, 5, 5)
		more[n]++
		check(t, shown(impl.VecBelow(vec(5, 5, 5, 5), more), impl.VecBelow(more, vec(5, 5, 5, 5))), "true;false;", "one place alone", n)
	}
	bad := [][]int{nil, {}, {0}, {0, 0, 0}, {1, 1, 1, 1, 1}, {0, 0, 0, 0, 0}, make([]int, 4000)}
	for n := range 4 {
		for _, far := range []int{-1, 1001, math.MinInt, math.MaxInt, 1 << 32, -1000} {
			v := vec(1, 1, 1, 1)
			v[n] = far
			bad = append(bad, v)
		}
	}
	for _, v := range bad {
		check(t, shown(impl.VecOk(v)), "false;", "VecOk", v)
		for _, w := range [][]int{vec(0, 0, 0, 0), vec(1000, 1000, 1000, 1000), v} {
			check(t, shown(impl.VecUp(v, w), impl.VecUp(w, v)), "[];[];", "VecUp", v, w)
			check(t, shown(impl.VecBelow(v, w), impl.VecBelow(w, v)), "false;false;", "VecBelow", v, w)
		}
		refusesTree(t, shown("a vector", v), treeOf(v))
		refusesTree(t, shown("a vector", v), treeOf(v, wrote("x", 1, 1, 1)))
	}
}

func TestTreesThatMayBe(t *testing.T) {
	good := map[string]impl.Tree{
		"nothing":                  treeOf(vec(0, 0, 0, 0)),
		"an empty list":            {Vec: vec(0, 0, 0, 0), L: []impl.Entry{}},
		"deeds without an entry":   treeOf(vec(1000, 0, 7, 1000)),
		"copies":                   manyCopies(),
		"as many as may be":        fullTree(),
		"one of each device":       treeOf(vec(1, 1, 1, 1), wrote("a", 0, 3, 1), wrote("b", 0, 2, 1), wrote("c", 0, 1, 1), wrote("d", 0, 0, 1)),
		"the least and the most":   treeOf(vec(1000, 1, 0, 1000), wrote("a", 0, 0, 1), wrote("b", 999, 0, 1000), wrote("c", 999, 1, 1), wrote("d", 0, 3, 1000)),
		"by name alone":            treeOf(vec(2, 0, 0, 0), wrote("a", 1, 0, 1), wrote("b", 1, 0, 2)),
		"a name starts another":    treeOf(vec(2, 0, 0, 0), wrote("a", 1, 0, 1), wrote("aa", 1, 0, 2)),
		"names by their bytes":     treeOf(vec(5, 0, 0, 0), wrote("B", 1, 0, 1), wrote("a", 1, 0, 2), wrote("\u00e9", 1, 0, 3), wrote("\uffff", 1, 0, 4), wrote("\U00010000", 1, 0, 5)),
		"by At alone":              treeOf(vec(2, 0, 0, 0), wrote("a", 1, 0, 2), wrote("a", 1, 0, 1)),
		"by By alone":              treeOf(vec(1, 1, 1, 1), wrote("a", 1, 0, 1), wrote("a", 1, 1, 1), wrote("a", 1, 2, 1), wrote("a", 1, 3, 1)),
		"by At ahead of By":        treeOf(vec(1, 2, 0, 0), wrote("a", 1, 1, 2), wrote("a", 1, 0, 1)),
		"by Name ahead of At, By":  treeOf(vec(1, 2, 0, 0), wrote("a", 1, 1, 1), wrote("b", 1, 1, 2), wrote("b", 1, 0, 1)),
		"one At of two devices":    treeOf(vec(3, 3, 0, 0), wrote("a", 1, 0, 3), wrote("b", 1, 1, 3)),
		"names alike, but in case": treeOf(vec(2, 0, 0, 0), wrote("A", 1, 0, 1), wrote("a", 1, 0, 2)),
	}
	for what, x := range good {
		check(t, shown(impl.TreeOk(x)), "true;", what)
		same, ok := impl.Merge(x, x)
		check(t, shown(same, ok), shown(x, true), "Merge with itself: "+what)
		check(t, shown(impl.TreeCmp(x, x)), "0;", "TreeCmp with itself: "+what)
	}
	check(t, shown(impl.TreeNew()), shown(treeOf(vec(0, 0, 0, 0))), "TreeNew")
}

func TestTreesThatMayNotBe(t *testing.T) {
	many := fullTree()
	many.Vec[0]++
	many.L = append(many.L, wrote("zz", 0, 0, 10))
	v := vec(5, 5, 5, 5)
	bad := map[string]impl.Tree{
		"the zero value":             {},
		"no vector":                  treeOf(nil, wrote("a", 1, 0, 1)),
		"one entry too many":         many,
		"many entries too many":      {Vec: v, L: slices.Repeat(many.L, 300)},
		"At 0":                       treeOf(v, wrote("a", 1, 0, 0)),
		"At above Vec of By":         treeOf(v, wrote("a", 1, 0, 6)),
		"At above another's Vec":     treeOf(vec(5, 4, 5, 5), wrote("a", 1, 1, 5)),
		"At of none that did it":     treeOf(vec(5, 5, 0, 5), wrote("a", 1, 2, 1)),
		"At 1001":                    treeOf(vec(1000, 0, 0, 0), wrote("a", 1, 0, 1001)),
		"the same entry twice":       treeOf(v, wrote("a", 1, 0, 1), wrote("a", 1, 0, 1)),
		"a deed twice by Val":        treeOf(v, wrote("a", 1, 0, 1), wrote("a", 2, 0, 1)),
		"a deed twice by Name":       treeOf(v, wrote("a", 1, 0, 1), wrote("b", 1, 0, 1)),
		"a deed twice, far apart":    treeOf(v, wrote("a", 1, 0, 1), wrote("b", 1, 0, 2), wrote("c", 1, 1, 1), wrote("d", 1, 0, 1)),
		"not by Name":                treeOf(v, wrote("b", 1, 0, 1), wrote("a", 1, 0, 2)),
		"not by Name, longer first":  treeOf(v, wrote("aa", 1, 0, 1), wrote("a", 1, 0, 2)),
		"not by Name's bytes":        treeOf(v, wrote("a", 1, 0, 1), wrote("B", 1, 0, 2)),
		"not by At":                  treeOf(v, wrote("a", 1, 0, 1), wrote("a", 1, 0, 2)),
		"not by By":                  treeOf(v, wrote("a", 1, 1, 1), wrote("a", 1, 0, 1)),
		"by By ahead of At":          treeOf(v, wrote("a", 1, 0, 1), wrote("a", 1, 1, 2)),
		"by At ahead of Name":        treeOf(v, wrote("b", 1, 0, 2), wrote("a", 1, 0, 1)),
		"a name apart from its own":  treeOf(v, wrote("a", 1, 0, 2), wrote("b", 1, 1, 1), wrote("a", 1, 0, 1)),
		"the last one is wrong":      treeOf(manyCopies().Vec, append(manyCopies().L, wrote("d", 1000, 0, 4))...),
		"the first one is wrong":     treeOf(manyCopies().Vec, append([]impl.Entry{wrote("A", -1, 0, 4)}, manyCopies().L...)...),
		"deeds that are not known":   {Vec: vec(0, 0, 0, 0), L: manyCopies().L},
		"a vector that is too short": {Vec: []int{9, 9, 9}, L: manyCopies().L[:1]},
		"a vector that is too long":  {Vec: []int{9, 9, 9, 9, 9}, L: manyCopies().L},
		"By beyond a long vector":    {Vec: []int{9, 9, 9, 9, 9}, L: []impl.Entry{wrote("a", 1, 4, 1)}},
		"the zero entry":             treeOf(v, impl.Entry{}),
		"an entry without a name":    treeOf(v, wrote("a", 1, 0, 1), impl.Entry{By: 1, At: 1}),
	}
	for what, x := range bad {
		refusesTree(t, what, x)
	}
	for _, far := range append([]int{-1, 1 << 32, -1 << 32}, farNumbers...) {
		refusesTree(t, shown("Val", far), treeOf(v, wrote("a", far, 0, 1)))
		refusesTree(t, shown("By", far), treeOf(v, wrote("a", 1, far, 1)))
		refusesTree(t, shown("At", far), treeOf(v, wrote("a", 1, 0, far)))
	}
	refusesTree(t, "By 4", treeOf(v, wrote("a", 1, 4, 1)))
}

func TestTreesPut(t *testing.T) {
	rows := []struct {
		what string
		from impl.Tree
		by   int
		name string
		val  int
		want impl.Tree
	}{
		{"the first", impl.TreeNew(), 0, "x", 1, treeOf(vec(1, 0, 0, 0), wrote("x", 1, 0, 1))},
		{"by the last device", impl.TreeNew(), 3, "x", 999, treeOf(vec(0, 0, 0, 1), wrote("x", 999, 3, 1))},
		{"the same again", treeOf(vec(1, 0, 0, 0), wrote("x", 1, 0, 1)), 0, "x", 1, treeOf(vec(2, 0, 0, 0), wrote("x", 1, 0, 2))},
		{"over another's", treeOf(vec(1, 0, 0, 0), wrote("x", 1, 0, 1)), 2, "x", 0, treeOf(vec(1, 0, 1, 0), wrote("x", 0, 2, 1))},
		{"behind", treeOf(vec(1, 0, 0, 0), wrote("x", 1, 0, 1)), 0, "xa", 2, treeOf(vec(2, 0, 0, 0), wrote("x", 1, 0, 1), wrote("xa", 2, 0, 2))},
		{"in front", treeOf(vec(1, 0, 0, 0), wrote("x", 1, 0, 1)), 1, "X", 2, treeOf(vec(1, 1, 0, 0), wrote("X", 2, 1, 1), wrote("x", 1, 0, 1))},
		{"behind deeds that left nothing", treeOf(vec(7, 0, 0, 0)), 0, "x", 2, treeOf(vec(8, 0, 0, 0), wrote("x", 2, 0, 8))},
		{"over three", manyCopies(), 2, "b", 6, treeOf(vec(4, 2, 2, 9), wrote("a", 5, 1, 2), wrote("b", 6, 2, 2), wrote("ba", 3, 3, 9), wrote("b\u00e9", 0, 0, 1), wrote("c", 999, 3, 8), wrote("c", 4, 0, 2))},
		{"the last deed", treeOf(vec(999, 1, 0, 0), wrote("x", 1, 0, 999)), 0, "y", 2, treeOf(vec(1000, 1, 0, 0), wrote("x", 1, 0, 999), wrote("y", 2, 0, 1000))},
		{"where another did all", treeOf(vec(1000, 1, 0, 0), wrote("x", 1, 0, 1000)), 1, "x", 2, treeOf(vec(1000, 2, 0, 0), wrote("x", 2, 1, 2))},
		{"over one of many", fullTree(), 3, "a", 8, treeOf(vec(9, 1, 1, 2), append([]impl.Entry{wrote("a", 8, 3, 2)}, fullTree().L[1:]...)...)},
		{"over three of many", fullTree(), 1, "z", 8, treeOf(vec(9, 2, 1, 1), append(fullTree().L[:9:9], wrote("z", 8, 1, 2))...)},
		{"the last one of many", treeOf(fullTree().Vec, fullTree().L[:11]...), 1, "A", 8, treeOf(vec(9, 2, 1, 1), append([]impl.Entry{wrote("A", 8, 1, 2)}, fullTree().L[:11]...)...)},
	}
	for _, r := range rows {
		got, ok := impl.Put(r.from, r.by, []byte(r.name), r.val)
		check(t, shown(got, ok), shown(r.want, true), r.what)
		check(t, shown(impl.TreeOk(got)), "true;", r.what)
	}
	no := []struct {
		what string
		from impl.Tree
		by   int
		name string
		val  int
	}{
		{"one name too many", fullTree(), 1, "y", 8},
		{"one name too many, behind all", fullTree(), 0, "zz", 8},
		{"one deed too many", treeOf(vec(1000, 1, 0, 0), wrote("x", 1, 0, 999)), 0, "x", 2},
		{"one deed too many, of nothing", treeOf(vec(0, 0, 0, 1000)), 3, "x", 2},
		{"no device", manyCopies(), 4, "b", 1},
		{"no device", manyCopies(), -1, "b", 1},
		{"Val below", manyCopies(), 1, "b", -1},
		{"Val above", manyCopies(), 1, "b", 1000},
		{"no name", manyCopies(), 1, "", 1},
	}
	for _, r := range no {
		got, ok := impl.Put(r.from, r.by, []byte(r.name), r.val)
		check(t, shown(got, ok), shown(impl.Tree{}, false), r.what)
	}
	for _, far := range farNumbers {
		got, ok := impl.Put(manyCopies(), far, []byte("b"), 1)
		more, fine := impl.Put(manyCopies(), 1, []byte("b"), far)
		check(t, shown(got, ok, more, fine), shown(impl.Tree{}, false, impl.Tree{}, false), "far outside", far)
	}
}

func TestTreesDrop(t *testing.T) {
	c := manyCopies()
	rows := []struct {
		name string
		want impl.Tree
	}{
		{"a", treeOf(c.Vec, c.L[1:]...)},
		{"b", treeOf(c.Vec, append(c.L[:1:1], c.L[4:]...)...)},
		{"ba", treeOf(c.Vec, append(c.L[:4:4], c.L[5:]...)...)},
		{"b\u00e9", treeOf(c.Vec, append(c.L[:5:5], c.L[6:]...)...)},
		{"c", treeOf(c.Vec, c.L[:6]...)},
	}
	for _, r := range rows {
		got, ok := impl.Drop(manyCopies(), []byte(r.name))
		check(t, shown(got, ok), shown(r.want, true), "Drop", r.name)
		again, ok := impl.Drop(got, []byte(r.name))
		check(t, shown(again, ok), shown(r.want, false), "Drop again", r.name)
	}
	for _, name := range []string{"", "d", "B", "bb", "b~1.1", "b\xc3", "a\x00", strings.Repeat("a", 5000)} {
		got, ok := impl.Drop(manyCopies(), []byte(name))
		check(t, shown(got, ok), shown(manyCopies(), false), "Drop of none", name)
	}
	last, ok := impl.Drop(treeOf(vec(0, 3, 0, 0), wrote("x", 1, 1, 2)), []byte("x"))
	check(t, shown(last, ok), shown(treeOf(vec(0, 3, 0, 0)), true), "Drop of the last one")
	none, ok := impl.Drop(impl.TreeNew(), []byte("x"))
	check(t, shown(none, ok), shown(impl.TreeNew(), false), "Drop of nothing")
}

// TestTreesMerge: each row is asked both ways.
func TestTreesMerge(t *testing.T) {
	x, y := wrote("x", 1, 0, 2), wrote("y", 2, 1, 5)
	some := treeOf(vec(2, 1, 1, 0), append(manyCopies().L[2:4:4], manyCopies().L[5])...)
	rows := []struct {
		what       string
		a, b, want impl.Tree
	}{
		{"nothing and nothing", impl.TreeNew(), impl.TreeNew(), impl.TreeNew()},
		{"vectors alone", treeOf(vec(1, 0, 3, 0)), treeOf(vec(0, 2, 3, 1)), treeOf(vec(1, 2, 3, 1))},
		{"one with nothing", treeOf(vec(2, 0, 0, 0), x), impl.TreeNew(), treeOf(vec(2, 0, 0, 0), x)},
		{"both have it", treeOf(vec(2, 0, 0, 0), x), treeOf(vec(3, 0, 0, 0), x), treeOf(vec(3, 0, 0, 0), x)},
		{"one has it, the other knows of it", treeOf(vec(2, 0, 0, 0), x), treeOf(vec(2, 0, 0, 0)), treeOf(vec(2, 0, 0, 0))},
		{"the other knows of more", treeOf(vec(2, 0, 0, 0), x), treeOf(vec(3, 0, 0, 0)), treeOf(vec(3, 0, 0, 0))},
		{"the other does not know of it", treeOf(vec(2, 0, 0, 0), x), treeOf(vec(1, 0, 0, 0)), treeOf(vec(2, 0, 0, 0), x)},
		{"the other knows of other devices", treeOf(vec(2, 0, 0, 0), x), treeOf(vec(1, 9, 9, 9)), treeOf(vec(2, 9, 9, 9), x)},
		{"each has one of its own", treeOf(vec(2, 0, 0, 0), x), treeOf(vec(0, 5, 0, 0), y), treeOf(vec(2, 5, 0, 0), x, y)},
		{"each took the other's away", treeOf(vec(2, 5, 0, 0), x), treeOf(vec(2, 5, 0, 0), y), treeOf(vec(2, 5, 0, 0))},
		{"one took the other's away", treeOf(vec(2, 5, 0, 0), x), treeOf(vec(0, 5, 0, 0), y), treeOf(vec(2, 5, 0, 0), x)},
		{"one name at once", treeOf(vec(2, 0, 0, 0), x), treeOf(vec(1, 0, 0, 3), wrote("x", 9, 3, 3)), treeOf(vec(2, 0, 0, 3), wrote("x", 9, 3, 3), x)},
		{"one name and At at once", treeOf(vec(0, 0, 2, 0), wrote("x", 1, 2, 2)), treeOf(vec(0, 2, 0, 0), wrote("x", 1, 1, 2)), treeOf(vec(0, 2, 2, 0), wrote("x", 1, 1, 2), wrote("x", 1, 2, 2))},
		{"all alike but By", treeOf(vec(0, 0, 2, 0), wrote("x", 1, 2, 2)), treeOf(vec(0, 2, 2, 0), wrote("x", 1, 1, 2)), treeOf(vec(0, 2, 2, 0), wrote("x", 1, 1, 2))},
		{"all alike but At", treeOf(vec(2, 0, 0, 0), x), treeOf(vec(3, 0, 0, 0), wrote("x", 1, 0, 3)), treeOf(vec(3, 0, 0, 0), wrote("x", 1, 0, 3))},
		{"written over", treeOf(vec(2, 0, 0, 0), x), treeOf(vec(2, 1, 0, 0), wrote("x", 7, 1, 1)), treeOf(vec(2, 1, 0, 0), wrote("x", 7, 1, 1))},
		{"copies with some of them, and less known", manyCopies(), some, treeOf(vec(4, 2, 1, 9), manyCopies().L[:7]...)},
		{"at the most deeds", treeOf(vec(1000, 999, 0, 0), wrote("x", 1, 0, 1000)), treeOf(vec(999, 1000, 0, 0), wrote("y", 1, 1, 1000)), treeOf(vec(1000, 1000, 0, 0), wrote("x", 1, 0, 1000), wrote("y", 1, 1, 1000))},
	}
	for _, r := range rows {
		got, ok := impl.Merge(r.a, r.b)
		check(t, shown(got, ok), shown(r.want, true), r.what)
		got, ok = impl.Merge(r.b, r.a)
		check(t, shown(got, ok), shown(r.want, true), r.what+", the other way")
	}
}

func TestTreesMergeUnlike(t *testing.T) {
	x := treeOf(vec(3, 0, 0, 0), wrote("a", 4, 0, 1), wrote("x", 1, 0, 2))
	unlike := map[string]impl.Tree{
		"in Val alone":        treeOf(vec(3, 0, 0, 0), wrote("x", 2, 0, 2)),
		"in Name alone":       treeOf(vec(3, 0, 0, 0), wrote("y", 1, 0, 2)),
		"in Name, one starts": treeOf(vec(3, 0, 0, 0), wrote("xx", 1, 0, 2)),
		"in both":             treeOf(vec(3, 0, 0, 0), wrote("y", 2, 0, 2)),
		"and one alike":       treeOf(vec(3, 0, 0, 0), wrote("a", 4, 0, 1), wrote("x", 2, 0, 2)),
		"the other one":       treeOf(vec(3, 0, 0, 0), wrote("a", 3, 0, 1), wrote("x", 1, 0, 2)),
		"and less is known":   treeOf(vec(2, 0, 0, 0), wrote("x", 2, 0, 2)),
		"turned about":        treeOf(vec(3, 0, 0, 0), wrote("a", 4, 0, 2), wrote("x", 1, 0, 1)),
		"and there are too many": func() impl.Tree {
			f := fullTree()
			f.L[1].Name = []byte("aa")
			return f
		}(),
	}
	for what, y := range unlike {
		check(t, shown(impl.TreeOk(x), impl.TreeOk(y)), "true;true;", what)
		for _, pair := range [][2]impl.Tree{{x, y}, {y, x}} {
			got, ok := impl.Merge(pair[0], pair[1])
			check(t, shown(got, ok), shown(impl.Tree{}, false), "unlike "+what)
		}
	}
}

// TestTreesMergeRoom: as many as may be, and one more; what goes makes room.
func TestTreesMergeRoom(t *testing.T) {
	full := fullTree()
	some := func(from, to int) impl.Tree {
		v := vec(0, 0, 0, 0)
		for _, e := range full.L[from:to] {
			v[e.By] = max(v[e.By], e.At)
		}
		return treeOf(v, full.L[from:to]...)
	}
	one := treeOf(vec(0, 0, 0, 2), wrote("y", 1, 3, 2), wrote("z", 3, 3, 1))
	two := treeOf(vec(0, 0, 0, 2), wrote("y", 1, 3, 2))
	rows := []struct {
		what string
		a, b impl.Tree
		want impl.Tree
		ok   bool
	}{
		{"twelve of two", some(0, 9), some(9, 12), full, true},
		{"twelve, and some of them", full, some(9, 12), full, true},
		{"one more", full, one, impl.Tree{}, false},
		{"one more, and one goes", full, two, treeOf(vec(9, 1, 1, 2), append(append(full.L[:9:9], two.L...), full.L[9:11]...)...), true},
		{"many more", full, func() impl.Tree {
			x := impl.TreeNew()
			for n := range 12 {
				x, _ = impl.Put(x, 1, []byte{byte('A' + n)}, 1)
			}
			x, _ = impl.Put(x, 2, []byte("A"), 1)
			return x
		}(), impl.Tree{}, false},
	}
	for _, r := range rows {
		got, ok := impl.Merge(r.a, r.b)
		check(t, shown(got, ok), shown(r.want, r.ok), r.what)
		got, ok = impl.Merge(r.b, r.a)
		check(t, shown(got, ok), shown(r.want, r.ok), r.what+", the other way")
	}
}

func TestTreesSeen(t *testing.T) {
	rows := []struct {
		x      impl.Tree
		view   []impl.File
		names  [][]byte
		copies int
	}{
		{impl.TreeNew(), nil, nil, 0},
		{treeOf(vec(1, 9, 3, 1000)), nil, nil, 0},
		{manyCopies(), files("a", 5, "b", 1, "b~1.1", 2, "b~2.1", 7, "ba", 3, "b\u00e9", 0, "c", 999, "c~0.2", 4), namesAsBytes("a", "b", "ba", "b\u00e9", "c"), 3},
		{treeOf(vec(0, 0, 0, 1000), wrote("x", 1, 3, 1000), wrote("x", 1, 3, 999), wrote("x", 1, 3, 10)), files("x", 1, "x~3.999", 1, "x~3.10", 1), namesAsBytes("x"), 2},
		{treeOf(vec(1000, 1000, 0, 0), wrote("\U0001f600\U0001f600\U0001f600\U0001f600\U0001f600\U0001f600", 1, 0, 1000), wrote("\U0001f600\U0001f600\U0001f600\U0001f600\U0001f600\U0001f600", 0, 1, 1000)),
			files("\U0001f600\U0001f600\U0001f600\U0001f600\U0001f600\U0001f600", 1, "\U0001f600\U0001f600\U0001f600\U0001f600\U0001f600\U0001f600~1.1000", 0), namesAsBytes("\U0001f600\U0001f600\U0001f600\U0001f600\U0001f600\U0001f600"), 1},
		{treeOf(vec(2, 0, 0, 0), wrote("x", 1, 0, 1), wrote("xx", 2, 0, 2)), files("x", 1, "xx", 2), namesAsBytes("x", "xx"), 0},
	}
	for _, r := range rows {
		check(t, shown(impl.View(r.x)), shown(r.view), "View", r.x)
		check(t, shown(impl.NamesOf(r.x)), shown(r.names), "NamesOf", r.x)
		check(t, shown(impl.Copies(r.x)), shown(r.copies), "Copies", r.x)
	}
	check(t, shown(impl.Copies(fullTree()), len(impl.NamesOf(fullTree())), len(impl.View(fullTree()))), "2;10;12;", "as many as may be")
}

func TestTreesByName(t *testing.T) {
	rows := []struct {
		name    string
		val     int
		there   bool
		writers []int
	}{
		{"a", 5, true, []int{1}}, {"b", 1, true, []int{0, 1, 2}}, {"ba", 3, true, []int{3}}, {"b\u00e9", 0, true, []int{0}},
		{"c", 999, true, []int{3, 0}},
		{"", 0, false, nil}, {"B", 0, false, nil}, {"aa", 0, false, nil}, {"d", 0, false, nil}, {"b~1.1", 0, false, nil},
		{"b\xc3", 0, false, nil}, {"b\x00", 0, false, nil}, {strings.Repeat("b", 5000), 0, false, nil},
	}
	for _, r := range rows {
		n, ok := impl.ValueOf(manyCopies(), []byte(r.name))
		check(t, shown(n, ok), shown(r.val, r.there), "ValueOf", r.name)
		check(t, shown(impl.Writers(manyCopies(), []byte(r.name))), shown(r.writers), "Writers", r.name)
	}
	same := treeOf(vec(0, 3, 0, 0), wrote("x", 1, 1, 3), wrote("x", 2, 1, 2), wrote("x", 3, 1, 1))
	check(t, shown(impl.Writers(same, []byte("x"))), "[1 1 1];", "Writers of one device's")
}

// TestTreesCompared: each tree is below the next one, by the first byte in which
// they differ; what comes behind it is greater in the one that is below.
func TestTreesCompared(t *testing.T) {
	high := vec(600, 600, 600, 600)
	one := func(name string, val, by, at int) impl.Tree { return treeOf(high, wrote(name, val, by, at)) }
	rising := [][]impl.Tree{
		{treeOf(vec(0, 1000, 1000, 1000)), treeOf(vec(1, 0, 1000, 1000)), treeOf(vec(1, 1, 0, 1000)), treeOf(vec(1, 1, 1, 0)), treeOf(vec(1, 1, 1, 1))},
		{treeOf(vec(1, 0, 0, 0)), treeOf(vec(255, 0, 0, 0)), treeOf(vec(256, 0, 0, 0)), treeOf(vec(257, 0, 0, 0)), treeOf(vec(511, 0, 0, 0)), treeOf(vec(512, 0, 0, 0)), treeOf(vec(1000, 0, 0, 0))},
		{treeOf(vec(0, 0, 0, 1)), treeOf(vec(0, 0, 0, 255)), treeOf(vec(0, 0, 0, 256)), treeOf(vec(0, 0, 0, 1000))},
		{treeOf(vec(0, 5, 5, 5), wrote("z", 9, 3, 5)), treeOf(vec(1, 5, 5, 5), wrote("a", 0, 1, 1))},
		{treeOf(high), one("zzzzzz", 999, 3, 600), treeOf(high, wrote("a", 0, 0, 1), wrote("b", 0, 0, 2)), treeOf(high, wrote("a", 0, 0, 1), wrote("b", 0, 0, 2), wrote("c", 0, 0, 3))},
		{one("z", 999, 3, 600), one("aa", 999, 3, 600), one("ab", 999, 3, 600), one("aaa", 0, 0, 1), one("\u4e2d", 0, 0, 1), one("aaaa", 0, 0, 1)},
		{one("A", 999, 3, 600), one("a", 1, 3, 600), one("a", 255, 3, 600), one("a", 256, 3, 600), one("a", 257, 0, 600), one("a", 257, 1, 1)},
		{one("a", 1, 2, 600), one("a", 1, 3, 1), one("a", 1, 3, 255), one("a", 1, 3, 256), one("a", 1, 3, 257), one("a", 1, 3, 512), one("a", 1, 3, 600)},
		{treeOf(high, wrote("a", 1, 0, 1), wrote("b", 1, 0, 2)), treeOf(high, wrote("a", 1, 0, 1), wrote("b", 1, 0, 3)), treeOf(high, wrote("a", 1, 0, 1), wrote("b", 1, 1, 1)), treeOf(high, wrote("a", 1, 0, 2), wrote("b", 1, 0, 1))},
	}
	for _, list := range rising {
		for i, a := range list {
			check(t, shown(impl.TreeOk(a)), "true;", "TreeOk", a)
			for j, b := range list {
				want := 0
				if i < j {
					want = -1
				} else if i > j {
					want = 1
				}
				check(t, shown(impl.TreeCmp(a, b)), shown(want), "TreeCmp", a, b)
			}
		}
	}
}
