package tests

import (
	"slices"
	"testing"

	"loop.example/g00642/impl"
)

func numbers(from, to int) []int {
	var out []int
	for n := from; n <= to; n++ {
		out = append(out, n)
	}
	return out
}

func times(count, n int) []int { return slices.Repeat([]int{n}, count) }

// orders gives all orders of a list.
func orders(list []int) [][]int {
	if len(list) == 0 {
		return [][]int{nil}
	}
	var out [][]int
	for i, x := range list {
		for _, rest := range orders(slices.Delete(slices.Clone(list), i, i+1)) {
			out = append(out, append(rest, x))
		}
	}
	return out
}

// madeRow is what the chapter gives, written down by hand, for one who has these.
type madeRow struct {
	have, opened, all, leaks []int
}

// checkRow asks in whatever order one has them, with each twice, and with numbers
// of no term in between.
func checkRow(t *testing.T, l impl.Ledger, r madeRow) {
	t.Helper()
	back := slices.Clone(r.have)
	slices.Reverse(back)
	outside := append(append([]int{-1, len(l.L)}, farNumbers...), r.have...)
	for _, have := range [][]int{r.have, back, append(back, r.have...), append(outside, -1)} {
		check(t, shown(impl.Opened(l, have)), shown(r.opened), "Opened", have)
		check(t, shown(impl.All(l, have)), shown(r.all), "All", have)
		check(t, shown(impl.Leaks(l, have)), shown(r.leaks), "Leaks", have)
		for id := range l.L {
			can := slices.Contains(r.all, id)
			check(t, shown(impl.Can(l, have, id), impl.Secret(l, have, id)), shown(can, !can), "Can, Secret", have, id)
		}
		for _, id := range append([]int{-1, len(l.L)}, farNumbers...) {
			check(t, shown(impl.Can(l, have, id), impl.Secret(l, have, id)), shown(false, false), "Can, Secret of none", have, id)
			check(t, shown(impl.Missing(l, have, id), impl.Gains(l, have, id)), "[];[];", "Missing, Gains of none", have, id)
		}
	}
}

func TestMadeSample(t *testing.T) {
	rows := []madeRow{
		{nil, nil, []int{5, 6, 7, 8}, nil},
		{[]int{0}, []int{0}, []int{0, 5, 6, 7, 8, 13}, []int{0}},
		{[]int{1}, []int{1}, []int{1, 5, 6, 7, 8}, []int{1}},
		{[]int{2}, []int{2}, []int{2, 5, 6, 7, 8}, nil},
		{[]int{3}, []int{2, 3}, []int{2, 3, 5, 6, 7, 8}, nil},
		{[]int{4}, []int{4}, []int{4, 5, 6, 7, 8, 11}, []int{4}},
		{[]int{6}, []int{6}, []int{5, 6, 7, 8}, nil},
		{[]int{7}, []int{5, 7}, []int{5, 6, 7, 8}, nil},
		{[]int{8}, []int{8}, []int{5, 6, 7, 8}, nil},
		{[]int{10}, []int{1, 4, 10}, []int{1, 4, 5, 6, 7, 8, 10, 11}, []int{1, 4}},
		{[]int{11}, []int{11}, []int{5, 6, 7, 8, 11}, nil},
		{[]int{4, 11}, []int{4, 8, 11}, []int{4, 5, 6, 7, 8, 11}, []int{4}},
		{[]int{12}, []int{0, 12}, []int{0, 5, 6, 7, 8, 12, 13}, []int{0}},
		{[]int{13}, []int{13}, []int{5, 6, 7, 8, 13}, nil},
		{[]int{0, 2}, []int{0, 1, 2}, []int{0, 1, 2, 3, 5, 6, 7, 8, 13}, []int{0, 1}},
		{[]int{0, 3}, []int{0, 1, 2, 3}, []int{0, 1, 2, 3, 5, 6, 7, 8, 13}, []int{0, 1}},
		{[]int{12, 2}, []int{0, 1, 2, 12}, []int{0, 1, 2, 3, 5, 6, 7, 8, 12, 13}, []int{0, 1}},
		{[]int{3, 9, 12}, []int{0, 1, 2, 3, 9, 12}, []int{0, 1, 2, 3, 5, 6, 7, 8, 9, 12, 13}, []int{0, 1, 9}},
		{[]int{10, 11, 12}, []int{0, 1, 4, 8, 10, 11, 12}, []int{0, 1, 2, 3, 4, 5, 6, 7, 8, 10, 11, 12, 13}, []int{0, 1, 4}},
		{numbers(0, 13), numbers(0, 13), numbers(0, 13), []int{0, 1, 4, 9}},
	}
	for _, r := range rows {
		checkRow(t, sample(), r)
	}
}

func TestMadeSampleMissing(t *testing.T) {
	rows := []struct {
		have []int
		want int
		miss []int
	}{
		{nil, 0, []int{0}}, {nil, 1, []int{1}}, {nil, 2, []int{0, 1}}, {nil, 3, []int{0, 1}},
		{nil, 4, []int{4}}, {nil, 5, nil}, {nil, 8, nil}, {nil, 9, []int{9}}, {nil, 10, []int{1, 4}},
		{nil, 11, []int{4}}, {nil, 12, []int{0, 4}}, {nil, 13, []int{0}},
		{[]int{4}, 11, nil}, {[]int{4, 4, 99}, 12, []int{0}}, {[]int{10}, 3, []int{0}}, {[]int{12}, 3, []int{1}},
		{[]int{2, 12}, 3, nil}, {[]int{9}, 10, []int{1, 4}},
		// What one has, one need not make; what stands in it may be missing.
		{[]int{3}, 3, []int{0, 1}}, {[]int{3}, 2, []int{0, 1}}, {[]int{13}, 13, []int{0}}, {[]int{12}, 12, []int{4}},
	}
	for _, r := range rows {
		check(t, shown(impl.Missing(sample(), r.have, r.want)), shown(r.miss), "Missing", r.have, r.want)
	}
}

func TestMadeSampleGains(t *testing.T) {
	rows := []struct {
		have  []int
		id    int
		gains []int
	}{
		{nil, 0, []int{0, 13}}, {nil, 5, nil}, {nil, 8, nil}, {nil, 9, []int{9}}, {nil, 3, []int{2, 3}},
		{nil, 10, []int{1, 4, 10, 11}}, {nil, 12, []int{0, 12, 13}}, {nil, 13, []int{13}},
		{[]int{2}, 0, []int{0, 1, 3, 13}}, {[]int{0}, 2, []int{1, 2, 3}}, {[]int{4}, 1, []int{1, 10}},
		{[]int{4}, 11, nil}, {[]int{12}, 12, nil}, {[]int{12}, 0, nil}, {[]int{0, 4}, 12, nil},
		{[]int{12, 12, -1}, 3, []int{1, 2, 3}}, {numbers(0, 13), 7, nil},
	}
	for _, r := range rows {
		check(t, shown(impl.Gains(sample(), r.have, r.id)), shown(r.gains), "Gains", r.have, r.id)
	}
}

// TestMadeSeals: what opens a seal is its key, wherever that comes from.
func TestMadeSeals(t *testing.T) {
	rows := []struct {
		what string
		l    impl.Ledger
		madeRow
	}{
		{"the key is had", ledger(key(0), nonce(0), seal(0, 1)),
			madeRow{[]int{0, 2}, numbers(0, 2), numbers(0, 2), []int{0, 1}}},
		{"only another key is had", ledger(key(0), nonce(0), seal(0, 1), key(1)),
			madeRow{[]int{2, 3}, []int{2, 3}, []int{2, 3}, []int{3}}},
		{"the nonce of the key's A is had", ledger(key(0), nonce(0), nonce(1), seal(0, 2)),
			madeRow{[]int{1, 3}, []int{1, 3}, []int{1, 3}, []int{1}}},
		{"the key is in a pair", ledger(key(0), nonce(0), seal(0, 1), text(""), pair(3, 0)),
			madeRow{[]int{2, 4}, numbers(0, 4), numbers(0, 4), []int{0, 1}}},
		{"the key is signed", ledger(key(0), key(1), nonce(0), seal(0, 2), sign(1, 0)),
			madeRow{[]int{3, 4}, []int{0, 2, 3, 4}, []int{0, 2, 3, 4}, []int{0, 2}}},
		{"the key signs", ledger(key(0), nonce(0), seal(0, 1), text(""), sign(0, 3)),
			madeRow{[]int{2, 4}, []int{2, 3, 4}, []int{2, 3, 4}, nil}},
		{"the key seals what is had", ledger(key(0), nonce(0), seal(0, 1)),
			madeRow{[]int{1, 2}, []int{1, 2}, []int{1, 2}, []int{1}}},
		{"the key is hashed", ledger(key(0), nonce(0), seal(0, 1), hash(0)),
			madeRow{[]int{2, 3}, []int{2, 3}, []int{2, 3}, nil}},
		{"the key is sealed with itself", ledger(key(0), nonce(0), seal(0, 1), seal(0, 0)),
			madeRow{[]int{2, 3}, []int{2, 3}, []int{2, 3}, nil}},
		{"each key is sealed with the other", ledger(key(0), key(1), seal(0, 1), seal(1, 0)),
			madeRow{[]int{2, 3}, []int{2, 3}, []int{2, 3}, nil}},
		{"two seals wait for one key", ledger(key(0), nonce(0), nonce(1), seal(0, 1), seal(0, 2), pair(0, 0)),
			madeRow{[]int{3, 4, 5}, numbers(0, 5), numbers(0, 5), []int{0, 1, 2}}},
		{"the key is in a signed pair in a seal", ledger(key(0), key(1), nonce(0), seal(0, 2), pair(0, 0), sign(1, 4), seal(1, 5)),
			madeRow{[]int{1, 3, 6}, numbers(0, 6), numbers(0, 6), []int{0, 1, 2}}},
		{"a seal is only to be made", ledger(key(0), text(""), seal(0, 1), nonce(0), seal(0, 3)),
			madeRow{[]int{0}, []int{0}, []int{0, 1, 2}, []int{0}}},
		{"a seal is in a seal", ledger(key(0), key(1), nonce(0), seal(0, 2), seal(1, 3)),
			madeRow{[]int{0, 4}, []int{0, 4}, []int{0, 4}, []int{0}}},
		{"a seal is in a seal, and both keys are had", ledger(key(0), key(1), nonce(0), seal(0, 2), seal(1, 3)),
			madeRow{[]int{0, 1, 4}, numbers(0, 4), numbers(0, 4), []int{0, 1, 2}}},
	}
	for _, r := range rows {
		t.Log(r.what)
		checkRow(t, r.l, r.madeRow)
	}
}

// TestMadeKeysInSeals: three seals, each with the key of the next one in it, in
// whatever order they stand in the ledger and are had.
func TestMadeKeysInSeals(t *testing.T) {
	for _, stand := range orders([]int{0, 1, 2}) {
		l := ledger(key(0), key(1), key(2), nonce(0))
		for _, n := range stand {
			l.L = append(l.L, seal(n, n+1))
		}
		for _, have := range orders([]int{0, 4, 5, 6}) {
			check(t, shown(impl.Opened(l, have)), shown(numbers(0, 6)), "Opened", l, have)
			check(t, shown(impl.Leaks(l, have)), shown(numbers(0, 3)), "Leaks", l, have)
		}
		for _, have := range orders([]int{4, 5, 6}) {
			check(t, shown(impl.Opened(l, have)), shown(numbers(4, 6)), "Opened without a key", l, have)
			check(t, shown(impl.Gains(l, have, 0)), shown(numbers(0, 3)), "Gains with the first key", l, have)
			check(t, shown(impl.Missing(l, have, 4+slices.Index(stand, 2))), shown([]int{2, 3}), "Missing", l, have)
		}
	}
}

// TestMadeLimit: 1000 numbers may be had, whatever they are, and no more.
func TestMadeLimit(t *testing.T) {
	l := ledger(key(0), nonce(0), seal(0, 1), text(""))
	m := modelOf(l)
	for _, n := range []int{0, 3, -1, 4} {
		for count := 998; count <= 1002; count++ {
			have := append([]int{2}, times(count-1, n)...)
			for id := -1; id <= 4; id++ {
				checkMade(t, m, have, id)
			}
		}
	}
	have := append(times(999, 2), 0)
	check(t, shown(impl.Opened(l, have), impl.All(l, have), impl.Leaks(l, have)), "[0 1 2];[0 1 2 3];[0 1];", "1000")
	check(t, shown(impl.Can(l, have, 1), impl.Secret(l, have, 1), impl.Missing(l, times(1000, 2), 1)), "true;false;[1];", "1000")
	check(t, shown(impl.Secret(l, times(1000, 2), 1), impl.Secret(l, times(1001, 2), 1)), "true;false;", "Secret")
	check(t, shown(impl.Gains(l, times(999, 2), 0), impl.Gains(l, times(1000, 2), 0)), "[0 1];[];", "Gains")
	have = append(have, 0)
	check(t, shown(impl.Opened(l, have), impl.All(l, have), impl.Leaks(l, have)), "[];[];[];", "1001")
	check(t, shown(impl.Can(l, have, 3), impl.Secret(l, have, 1), impl.Missing(l, times(1001, 2), 1)), "false;false;[];", "1001")
}

func TestMadeFullLedgers(t *testing.T) {
	every := numbers(0, impl.MaxTerms-1)
	chain, pairs, marks := ledger(key(1)), ledger(key(1)), ledger(key(1))
	for n := range impl.MaxTerms - 1 {
		chain.L = append(chain.L, hash(n))
		pairs.L = append(pairs.L, pair(n, n))
		marks.L = append(marks.L, sign(0, n))
	}
	check(t, shown(impl.Opened(chain, []int{399}), impl.All(chain, []int{399}), impl.Missing(chain, []int{398}, 399)), "[399];[399];[0];", "hashes")
	check(t, shown(impl.All(chain, []int{398}), impl.Gains(chain, []int{200}, 0)), shown([]int{398, 399}, numbers(0, 199)), "more hashes")
	for _, l := range []impl.Ledger{chain, pairs, marks} {
		check(t, shown(impl.Opened(l, []int{0}), impl.All(l, []int{0}), impl.Leaks(l, []int{0})), shown([]int{0}, every, []int{0}), "from the first")
		check(t, shown(impl.All(l, nil), impl.Missing(l, nil, 399), impl.Secret(l, nil, 399), impl.Secret(l, nil, 400)), "[];[0];true;false;", "from nothing")
		check(t, shown(impl.Can(l, []int{0, 400}, 399), impl.Can(l, every, 400)), "true;false;", "the last, and one more")
	}
	for _, l := range []impl.Ledger{pairs, marks} {
		check(t, shown(impl.Opened(l, []int{399}), impl.Gains(l, nil, 399)), shown(every, every), "from the last")
	}
	refusesToMake(t, "one term too many", ledger(append(pairs.L, nonce(0))...))
}

// TestMadeFullLedgersOfSeals: 200 keys, and as many seals, each with the key of
// the next one in it, from the first one up, and from the last one down.
func TestMadeFullLedgersOfSeals(t *testing.T) {
	var up, down impl.Ledger
	for n := range 200 {
		up.L, down.L = append(up.L, key(n)), append(down.L, key(n))
	}
	for n := range 199 {
		up.L, down.L = append(up.L, seal(n, n+1)), append(down.L, seal(198-n, 199-n))
	}
	seals := numbers(200, 398)
	for _, l := range []impl.Ledger{up, down} {
		l.L = append(l.L, nonce(0))
		for _, have := range [][]int{append([]int{0}, seals...), append(slices.Clone(seals), 0)} {
			check(t, shown(impl.Opened(l, have)), shown(numbers(0, 398)), "Opened")
			check(t, shown(impl.Leaks(l, have)), shown(numbers(0, 199)), "Leaks")
			check(t, shown(impl.Secret(l, have, 399)), "true;", "Secret")
		}
		check(t, shown(impl.Opened(l, seals), impl.All(l, seals), impl.Leaks(l, seals)), shown(seals, seals, []int(nil)), "without a key")
		check(t, shown(impl.Gains(l, seals, 0), impl.Gains(l, seals, 100)), shown(numbers(0, 199), numbers(100, 199)), "Gains with a key")
	}
}

// TestMadeOfNothing: what one can make of a ledger without terms.
func TestMadeOfNothing(t *testing.T) {
	for _, have := range [][]int{nil, {}, {0}, {-1, 0, 1}, times(1000, 0), times(1001, 0)} {
		for _, id := range append([]int{-1, 0, 1}, farNumbers...) {
			checkMade(t, modelOf(impl.Ledger{}), have, id)
		}
	}
}
