package tests

import (
	"bytes"
	"math"
	"slices"
	"strings"
	"testing"

	"loop.example/g00642/impl"
)

// someAct is ActOk. What is pulled is mostly what the device wants, so that it gets on.
func someAct(d *dice, w impl.World, kinds ...int) impl.Act {
	a := impl.Act{Kind: kinds[d.below(len(kinds))], Dev: d.below(4)}
	if modelActNames(a, "n") {
		a.Name = []byte(sweepNames[d.below(4)])
	}
	if modelActNames(a, "v") {
		a.Val = d.below(1000)
	}
	if modelActNames(a, "d") {
		a.At = (a.Dev + 1 + d.below(3)) % 4
	} else if modelActNames(a, "a") {
		a.At = d.below(len(w.Store) + 1)
		if wanted := impl.Untaken(w, a.Dev); len(wanted) > 0 && d.below(4) > 0 {
			a.At = wanted[d.below(len(wanted))]
		}
	}
	return a
}

// honest are the kinds of acts but AcLeak, by how often they are done; leaky are all.
var honest = []int{0, 0, 0, 1, 2, 2, 2, 3, 3, 3, 3, 3, 3, 3, 4, 5, 5}

var leaky = append([]int{6, 6, 6}, honest...)

// turnedAct has one thing changed, mostly to what may not be.
func turnedAct(d *dice, a impl.Act) impl.Act {
	numbers := []int{-1, 0, 1, 3, 4, 999, 1000, math.MinInt, math.MaxInt}
	n := numbers[d.below(len(numbers))]
	switch d.below(6) {
	case 0:
		a.Kind = d.below(9) - 1
	case 1:
		a.Kind = n
	case 2:
		a.Dev = n
	case 3:
		a.At = n
	case 4:
		a.Val = n
	default:
		a.Name = someName(d)
	}
	return a
}

// turnedWorld has one thing changed, mostly to what may not be.
func turnedWorld(d *dice, w impl.World) impl.World {
	w.Devs, w.Store, w.Leaked = slices.Clone(w.Devs), slices.Clone(w.Store), slices.Clone(w.Leaked)
	c := crowd{w.Ledger, w.Devs, w.Store}
	n, at := d.below(4), d.below(len(w.Store)+1)
	switch d.below(9) {
	case 0, 1:
		w.Devs[n] = c.turnedDevice(d, w.Devs[n])
	case 2, 3:
		w.Store = slices.Insert(w.Store, at, c.given(d))
	case 4:
		w.Devs = slices.Insert(w.Devs, n, w.Devs[n])
	case 5:
		w.Devs[n], w.Devs[0] = w.Devs[0], w.Devs[n]
	case 6:
		w.Leaked = w.Leaked[:n]
	case 7:
		if len(w.Ledger.L) > 0 {
			w.Ledger.L = slices.Clone(w.Ledger.L)
			i := d.below(len(w.Ledger.L))
			w.Ledger.L[i] = turned(d, w.Ledger.L[i])
		}
	default:
		w.Leaked[n] = !w.Leaked[n]
	}
	return w
}

func someWorldAsk(d *dice, w impl.World) worldAsk {
	q := worldAsk{w: w, a: someAct(d, w, leaky...), n: d.below(6) - 1}
	for range d.below(6) {
		q.acts = append(q.acts, someAct(d, w, leaky...))
	}
	switch d.below(8) {
	case 0, 1:
		q.w = turnedWorld(d, w)
	case 2:
		q.a = turnedAct(d, q.a)
	case 3:
		if len(q.acts) > 0 {
			n := d.below(len(q.acts))
			q.acts[n] = turnedAct(d, q.acts[n])
		}
	}
	return q
}

// TestWorldsSweep holds every function against the model, in worlds with leaks and
// without.
func TestWorldsSweep(t *testing.T) {
	d := &dice{at: 15}
	counts := map[string]int{}
	for round := range 160 {
		w, kinds := modelWorldNew(), leaky
		if round%2 == 0 {
			kinds = honest
		}
		for range 40 {
			q := someWorldAsk(d, w)
			checkWorlds(t, q)
			countWorlds(counts, q)
			w, _ = modelDo(w, someAct(d, w, kinds...))
		}
	}
	for _, what := range []string{"bad world", "bad act", "bad run", "run", "alike", "safe", "alarms", "edit", "delete", "push", "pull", "turn", "meet", "leak",
		"edit undone", "delete undone", "pull undone", "fork", "gap", "old", "sig", "in alarm", "forked", "turned and taken", "many untaken"} {
		if counts[what] < 8 {
			t.Fatal("the sweep is one-sided: ", what, counts)
		}
	}
}

func countWorlds(counts map[string]int, q worldAsk) {
	count := func(what string, yes bool) {
		if yes {
			counts[what]++
		}
	}
	good, actOk := modelWorldOk(q.w), modelActOk(q.a)
	_, _, ran := modelRun(q.w, q.acts)
	count("bad world", !good)
	count("bad act", good && !actOk)
	count("bad run", good && !ran)
	count("run", ran && len(q.acts) > 1)
	count("alike", modelTreesAlike(q.w) && len(q.w.Devs[0].Tree.L) > 0)
	count("safe", modelSafe(q.w))
	count("alarms", modelAlarms(q.w) > 0)
	count("many untaken", len(modelUntaken(q.w, q.n)) > 1)
	if _, told := modelDo(q.w, q.a); told >= -1 {
		word := strings.Fields(string(modelActText(q.a)))[0]
		count(word, told >= 0)
		count(word+" undone", told < 0)
		count("forked", word == "meet" && told == 1)
		count("turned and taken", word == "turn" && told == 0)
		if word == "pull" && told > 0 {
			counts[[]string{"", "old", "gap", "sig", "fork", "in alarm", "clash"}[told]]++
		}
	}
}

// someWorld comes of so many acts of those kinds.
func someWorld(t *testing.T, d *dice, count int, kinds ...int) impl.World {
	t.Helper()
	w := impl.WorldNew()
	for range count {
		w, _ = doneIn(t, w, someAct(d, w, kinds...))
	}
	return w
}

// doneIn does what must be ActOk.
func doneIn(t *testing.T, w impl.World, a impl.Act) (impl.World, int) {
	t.Helper()
	after, told := impl.Do(w, a)
	if told < -1 {
		t.Fatal("an act is not done", w, a)
	}
	return after, told
}

// TestPromise7InWorlds: two of a world take unlike things, as one of them is leaked,
// and meet then.
func TestPromise7InWorlds(t *testing.T) {
	d := &dice{at: 16}
	met := 0
	for range 300 {
		w := someWorld(t, d, 5+d.below(30), honest...)
		for author := range 4 {
			if unlikeInWorld(t, d, w, author, d.below(4), d.below(4)) {
				met++
			}
		}
	}
	if met < 100 {
		t.Fatal("the promise is hardly asked for", met)
	}
}

// unlikeInWorld lets i take what the author said last, and j something unlike it at
// the same place. It tells whether both took it.
func unlikeInWorld(t *testing.T, d *dice, w impl.World, author, i, j int) bool {
	t.Helper()
	list := impl.Said(w, author)
	if i == j || len(list) == 0 {
		return false
	}
	last := list[len(list)-1]
	for _, at := range list[:len(list)-1] {
		w, _ = doneIn(t, w, pulls(i, at))
		w, _ = doneIn(t, w, pulls(j, at))
	}
	w, mine := doneIn(t, w, pulls(i, last))
	w, leaked := doneIn(t, w, leaks(author, sweepNames[d.below(4)], d.below(1000)))
	w, theirs := doneIn(t, w, pulls(j, len(w.Store)-1))
	if mine != impl.PlTaken || leaked != 0 || theirs != impl.PlTaken {
		return false
	}
	before := w
	w, told := doneIn(t, w, meets(i, j))
	x, y := w.Devs[i], w.Devs[j]
	check(t, shown(told, x.Alarm, y.Alarm, impl.Alarms(w), impl.Safe(w)), "1;true;true;2;false;", "they know it", w)
	proof := []impl.Manifest{before.Store[last], before.Store[len(before.Store)-1]}
	check(t, shown(x.Proof, y.Proof), shown(proof, proof), "they have the proof", w)
	for range 12 {
		w, _ = doneIn(t, w, someAct(d, w, leaky...))
		check(t, shown(w.Devs[i], w.Devs[j]), shown(x, y), "they keep it", w)
	}
	return true
}

// past is what was done in a world: what each said, and what each wrote by which deed.
type past struct {
	said  map[string]bool
	wrote map[[2]int]string
}

// keep adds what came of an act that was done.
func (p past) keep(a impl.Act, w impl.World) {
	switch a.Kind {
	case impl.AcPush:
		m := w.Store[len(w.Store)-1]
		p.said[shown(a.Dev, m)] = true
	case impl.AcEdit:
		p.wrote[[2]int{a.Dev, w.Devs[a.Dev].Tree.Vec[a.Dev]}] = shown(a.Name, a.Val)
	}
}

func TestPromise8(t *testing.T) {
	d := &dice{at: 17}
	heads, files := 0, 0
	for range 60 {
		w, p := impl.WorldNew(), past{map[string]bool{}, map[[2]int]string{}}
		for range 60 {
			a := someAct(d, w, honest...)
			next, told := doneIn(t, w, a)
			if told == 0 {
				p.keep(a, next)
			}
			w = next
			check(t, shown(impl.Alarms(w), impl.Safe(w)), "0;true;", "nobody is in alarm", w)
		}
		for _, x := range w.Devs {
			heads += saidByAuthors(t, p, x)
			files += writtenBy(t, p, x.Tree)
		}
		for _, m := range w.Store {
			files += writtenBy(t, p, m.Tree)
		}
	}
	if heads < 200 || files < 500 {
		t.Fatal("the promise is hardly asked for", heads, files)
	}
}

// saidByAuthors tells how many heads of others x has.
func saidByAuthors(t *testing.T, p past, x impl.Device) int {
	t.Helper()
	others := 0
	for _, h := range x.Heads {
		if !p.said[shown(h.Author, h)] {
			t.Fatal("nobody said that", x, h)
		}
		if h.Author != x.Id {
			others++
		}
	}
	return others
}

func writtenBy(t *testing.T, p past, x impl.Tree) int {
	t.Helper()
	for _, e := range x.L {
		check(t, p.wrote[[2]int{e.By, e.At}], shown(e.Name, e.Val), "it is written just so", x, e)
	}
	return len(x.L)
}

func TestPromise9(t *testing.T) {
	d := &dice{at: 18}
	alarms, calm := 0, 0
	for range 100 {
		w := impl.WorldNew()
		for range 60 {
			w, _ = doneIn(t, w, someAct(d, w, leaky...))
		}
		for _, x := range w.Devs {
			if !x.Alarm {
				calm++
				check(t, shown(x.Proof), "[];", "no alarm, no proof", w)
				continue
			}
			alarms++
			a, b := x.Proof[0], x.Proof[1]
			check(t, shown(impl.Forked(w.Ledger, a, b), len(x.Proof), w.Leaked[a.Author]), "true;2;true;", "there is a proof against one that is leaked", w)
			for _, m := range x.Proof {
				if !slices.ContainsFunc(w.Store, func(s impl.Manifest) bool { return shown(s) == shown(m) }) {
					t.Fatal("the proof is made up", w, m)
				}
			}
		}
	}
	if alarms < 100 || calm < 50 {
		t.Fatal("the promise is hardly asked for", alarms, calm)
	}
}

func TestPromise10(t *testing.T) {
	d := &dice{at: 19}
	alike, copies, unlikeBefore := 0, 0, 0
	for range 250 {
		w := someWorld(t, d, d.below(50), honest...)
		all, before := allPush(t, w)
		if !all {
			continue
		}
		after, clash := allPull(t, before)
		if clash {
			continue
		}
		alike++
		check(t, shown(impl.Alike(after), impl.Alarms(after)), "true;0;", "all have the same", w)
		for dev, x := range after.Devs {
			check(t, shown(x.Tree, impl.Untaken(after, dev)), shown(after.Devs[0].Tree, []int{}), "all have the same", w)
		}
		copies += impl.Copies(after.Devs[0].Tree)
		if !impl.Alike(before) {
			unlikeBefore++
		}
	}
	if alike < 100 || copies < 30 || unlikeBefore < 80 {
		t.Fatal("the promise is hardly asked for", alike, copies, unlikeBefore)
	}
}

// allPush tells whether each could say what it has.
func allPush(t *testing.T, w impl.World) (bool, impl.World) {
	t.Helper()
	all := true
	for dev := range 4 {
		next, told := doneIn(t, w, pushes(dev))
		w, all = next, all && told == 0
	}
	return all, w
}

// allPull tells whether anything clashed.
func allPull(t *testing.T, w impl.World) (impl.World, bool) {
	t.Helper()
	clash := false
	for dev := range 4 {
		for at := range w.Store {
			next, told := doneIn(t, w, pulls(dev, at))
			w, clash = next, clash || told == impl.PlClash
		}
	}
	return w, clash
}

// TestPromise11: a run is its acts one by one, wherever it is cut.
func TestPromise11(t *testing.T) {
	d := &dice{at: 20}
	lines, undone := 0, 0
	for round := range 100 {
		kinds := [][]int{honest, leaky}[round%2]
		start := someWorld(t, d, d.below(20), kinds...)
		w := start
		var acts []impl.Act
		var told []int
		for range d.below(30) {
			a := someAct(d, w, kinds...)
			next, code := doneIn(t, w, a)
			check(t, shown(impl.WorldOk(next)), "true;", "a world that may be", w, a)
			if code == -1 {
				check(t, shown(next), shown(w), "what can't be done changes nothing", w, a)
				undone++
			}
			acts, told, w = append(acts, a), append(told, code), next
			lines += lineForEach(t, w)
			wordsOfAct(t, a)
		}
		after, codes, ok := impl.Run(start, acts)
		check(t, shown(after, codes, ok), shown(w, told, true), "one by one", start, acts)
		cut := d.below(len(acts) + 1)
		half, first, _ := impl.Run(start, acts[:cut])
		whole, second, _ := impl.Run(half, acts[cut:])
		check(t, shown(whole, append(first, second...)), shown(w, told), "in two parts", start, acts)
	}
	if lines < 1000 || undone < 30 {
		t.Fatal("the promise is hardly asked for", lines, undone)
	}
}

// lineForEach fails unless there is a line for each device, and in it a word for each
// file. It gives how many files there are.
func lineForEach(t *testing.T, w impl.World) int {
	t.Helper()
	files := 0
	text := impl.WorldText(w)
	lines := bytes.Split(text, []byte("\n"))
	check(t, shown(len(lines), len(lines[len(lines)-1])), "5;0;", "a line for each", text)
	for n, d := range w.Devs {
		words := bytes.Split(lines[n], []byte(" "))
		want := 2 + len(d.Tree.L)
		if d.Alarm {
			want++
		}
		check(t, shown(len(words)), shown(want), "a word for each", text)
		files += len(d.Tree.L)
	}
	return files
}

func wordsOfAct(t *testing.T, a impl.Act) {
	t.Helper()
	want := []int{4, 3, 2, 3, 3, 3, 4}[a.Kind]
	text := impl.ActText(a)
	check(t, shown(len(bytes.Fields(text)), bytes.Contains(text, []byte("\n"))), shown(want, false), "words of an act", text)
}
