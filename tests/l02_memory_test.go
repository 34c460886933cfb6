package tests

import (
	"slices"
	"testing"
)

// roomyHave has numbers behind its length with which one could make all.
func roomyHave(have []int) []int {
	out := append([]int{}, have...)
	return append(out, 0, 1, 2, 3, 4, 9, 12)[:len(have)]
}

func someHaves() [][]int {
	return [][]int{
		nil, {0}, {2, 0}, {3, 12, 3}, {10, -1, 14}, numbers(0, 13),
		times(999, 2), times(1000, 2), times(1001, 2),
	}
}

// TestMadeMemory: no function writes into an argument or the room behind it, nor
// reads that room, nor hands any of it out, nor gives one memory twice.
func TestMadeMemory(t *testing.T) {
	for _, plain := range memoryLedgers() {
		l := roomy(plain)
		for _, had := range someHaves() {
			have := roomyHave(had)
			before := shownWithRoom(l, have)
			for _, f := range makeCalls() {
				for _, id := range []int{-1, 0, 1, 3, 11, 13, 14} {
					got := []any{f.ask(l, have, id)}
					check(t, shown(got...), shown(f.ask(plain, had, id)), f.name, "reads what lies behind", had, id)
					checkOwnMemory(t, f.name, got, []any{l, have, plain, had})
					checkOwnMemory(t, f.name+" twice", got, []any{f.ask(l, have, id)})
					checkRoomIsZero(t, f.name, got)
				}
			}
			check(t, shownWithRoom(l, have), before, "something is written into an argument")
		}
	}
}

// TestMadeAnswersAreOwn changes an answer, and then an argument.
func TestMadeAnswersAreOwn(t *testing.T) {
	l, have := sample(), numbers(0, 13)
	for _, f := range makeCalls() {
		got, is := f.ask(l, have, 3).([]int)
		if !is {
			continue
		}
		for n := range got {
			got[n] = -7
		}
		check(t, shown(l, have), shown(sample(), numbers(0, 13)), f.name+": the arguments")
		got, _ = f.ask(l, have, 3).([]int)
		kept := slices.Clone(got)
		for n := range have {
			have[n] = -9
		}
		check(t, shown(got), shown(kept), f.name+": the answer")
		have = numbers(0, 13)
	}
}

func TestMadeNothingIsKept(t *testing.T) {
	l := sample()
	checkNothingIsKept(t, someHaves(), func(have []int) string {
		out := ""
		for id := -1; id <= 14; id++ {
			for _, f := range makeCalls() {
				out += shown(f.ask(l, have, id))
			}
		}
		return out
	})
}
