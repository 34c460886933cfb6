package tests

import (
	"fmt"
	"math"
	"reflect"
	"sync"
	"testing"

	"loop.example/g00642/impl"
)

// dice gives the same numbers in every run, so that a failure can be had again.
type dice struct{ at uint64 }

func (d *dice) below(n int) int {
	d.at = d.at*6364136223846793005 + 1442695040888963407
	return int((d.at >> 33) % uint64(n))
}

// farNumbers are those that no list has.
var farNumbers = []int{math.MinInt, -1000, -2, 1000, math.MaxInt}

// shown writes values out whole; an empty list and nil are shown alike.
func shown(vs ...any) string {
	out := ""
	for _, v := range vs {
		out += fmt.Sprintf("%+v;", v)
	}
	return out
}

func check(t *testing.T, got, want string, what ...any) {
	t.Helper()
	if got != want {
		t.Fatalf("%.2000s\n got: %.2000s\nwant: %.2000s", shown(what...), got, want)
	}
}

// shownWithRoom writes values out with what lies behind the length of each list.
func shownWithRoom(vs ...any) string {
	out := ""
	for _, v := range vs {
		eachList(reflect.ValueOf(v), func(l reflect.Value) {
			out += fmt.Sprintf("%d of %v;", l.Len(), l.Slice(0, l.Cap()))
		})
		out += shown(v)
	}
	return out
}

// eachList visits each list in v, and those in the room behind a list, too.
func eachList(v reflect.Value, visit func(reflect.Value)) {
	switch v.Kind() {
	case reflect.Struct:
		for i := range v.NumField() {
			eachList(v.Field(i), visit)
		}
	case reflect.Slice:
		visit(v)
		all := v.Slice(0, v.Cap())
		for i := range all.Len() {
			eachList(all.Index(i), visit)
		}
	}
}

type area struct{ from, to uintptr }

// areas gives the memory of each list in the values, the room behind it with it.
func areas(vs ...any) []area {
	var out []area
	for _, v := range vs {
		eachList(reflect.ValueOf(v), func(l reflect.Value) {
			if size := uintptr(l.Cap()) * l.Type().Elem().Size(); size > 0 {
				out = append(out, area{l.Pointer(), l.Pointer() + size})
			}
		})
	}
	return out
}

func overlap(a, b area) bool { return a.from < b.to && b.from < a.to }

// checkOwnMemory fails if a list of the answers shares memory with one of the
// arguments or with another one of the answers.
func checkOwnMemory(t *testing.T, what string, answers, arguments []any) {
	t.Helper()
	mine, theirs := areas(answers...), areas(arguments...)
	for i, m := range mine {
		for _, a := range theirs {
			if overlap(m, a) {
				t.Fatalf("%s: an answer shares memory with an argument", what)
			}
		}
		for _, o := range mine[:i] {
			if overlap(m, o) {
				t.Fatalf("%s: two lists of an answer share memory", what)
			}
		}
	}
}

// checkRoomIsZero fails if anything stands behind the length of an answer's list:
// it could only be handed out from behind an argument's.
func checkRoomIsZero(t *testing.T, what string, answers []any) {
	t.Helper()
	for _, v := range answers {
		eachList(reflect.ValueOf(v), func(l reflect.Value) {
			for i := l.Len(); i < l.Cap(); i++ {
				if !l.Slice(0, l.Cap()).Index(i).IsZero() {
					t.Fatalf("%s: something stands behind the length of an answer", what)
				}
			}
		})
	}
}

// checkMemory asks for the same with room behind the arguments, without it, and
// twice.
func checkMemory(t *testing.T, what string, roomy, plain func() []any, arguments []any) {
	t.Helper()
	got, once := roomy(), plain()
	check(t, shown(got...), shown(once...), what, "reads what lies behind", arguments)
	checkOwnMemory(t, what, got, arguments)
	checkOwnMemory(t, what, once, arguments)
	checkOwnMemory(t, what+" twice", got, append(roomy(), once...))
	checkRoomIsZero(t, what, got)
}

// checkSameAgain asks from many goroutines at once, and fails if one of them is
// told anything but want.
func checkSameAgain(t *testing.T, want string, ask func(turn int) string) {
	t.Helper()
	again := make([]string, 4)
	var all sync.WaitGroup
	for i := range again {
		all.Go(func() { again[i] = ask(i) })
	}
	all.Wait()
	for _, a := range again {
		if a != want {
			t.Fatal("the same arguments have other answers later")
		}
	}
}

// checkAnswersAreOwn changes an answer, and then all that was asked with, which fresh
// gives in new memory each time.
func checkAnswersAreOwn[Q any](t *testing.T, what string, fresh func() Q, ask, arguments func(q Q) []any) {
	t.Helper()
	q := fresh()
	overwrite(ask(q)...)
	check(t, shown(q), shown(fresh()), what+": the arguments")
	got := ask(q)
	kept := shown(got...)
	overwrite(arguments(q)...)
	check(t, shown(got...), kept, what+": the answer")
	check(t, shown(ask(fresh())...), kept, what+": behind another one that was changed")
}

// checkNothingIsKept asks for the same again behind other things, the last one first,
// and from many goroutines at once.
func checkNothingIsKept[Q any](t *testing.T, asks []Q, tell func(q Q) string) {
	t.Helper()
	tellAll := func(backward bool) string {
		told := make([]string, len(asks))
		for n := range asks {
			if backward {
				n = len(asks) - 1 - n
			}
			told[n] = tell(asks[n])
		}
		return shown(told)
	}
	checkSameAgain(t, tellAll(false), func(turn int) string { return tellAll(turn%2 == 1) })
}

// overwrite changes all that can be changed in what was handed over.
func overwrite(vs ...any) {
	for _, v := range vs {
		switch v := v.(type) {
		case impl.World:
			overwrite(v.Ledger, v.Store, v.Leaked)
			for n := range v.Devs {
				overwrite(v.Devs[n])
				v.Devs[n] = impl.Device{Id: -7}
			}
		case impl.Act:
			overwrite(v.Name)
		case []impl.Act:
			for n := range v {
				overwrite(v[n])
				v[n] = impl.Act{Kind: -7, Dev: -7, At: -7, Val: -7}
			}
		case []bool:
			for n := range v {
				v[n] = !v[n]
			}
		case impl.Ledger:
			for n := range v.L {
				overwrite(v.L[n].Text)
				v.L[n] = impl.Term{Kind: -7, A: -7, B: -7}
			}
		case impl.Device:
			overwrite(v.Tree, v.Heads, v.Proof)
		case []impl.Manifest:
			for n := range v {
				overwrite(v[n])
				v[n] = impl.Manifest{Author: -7, Seq: -7, Prev: -7, Sig: -7}
			}
		case impl.Manifest:
			overwrite(v.Tree)
		case impl.Tree:
			overwrite(v.Vec)
			for n := range v.L {
				overwrite(v.L[n].Name)
				v.L[n] = impl.Entry{Val: -7, By: -7, At: -7}
			}
		case []impl.File:
			for n := range v {
				overwrite(v[n].Name)
				v[n].Val = -7
			}
		case [][]byte:
			for _, b := range v {
				overwrite(b)
			}
		case []int:
			for n := range v {
				v[n] = -7
			}
		case []byte:
			for n := range v {
				v[n] = '#'
			}
		}
	}
}
