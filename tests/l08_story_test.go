package tests

import (
	"math"
	"slices"
	"testing"

	"loop.example/g00728/impl"
)

// frameSizes are the lengths of an event's, a mark's and a bye's frame.
const (
	eventSize = 14
	markSize  = 9
	byeSize   = 6
)

func byWinAndKey(a impl.Agg, b impl.Agg) int {
	if a.Win != b.Win {
		return a.Win - b.Win
	}
	return a.Key - b.Key
}

// someEvents come in no order of time, and often in the same windows of the same keys.
func someEvents(seed int, n int) []impl.Frame {
	next := stir(seed)
	var list []impl.Frame
	for range n {
		list = append(list, event(next(4), next(60), next(200)-100))
	}
	return list
}

// foldedPlainly is foldPlainly, by window and then key.
func foldedPlainly(list []impl.Frame, size int) []impl.Agg {
	var sums []impl.Agg
	for _, a := range foldPlainly(list, size) {
		sums = append(sums, a)
	}
	slices.SortFunc(sums, byWinAndKey)
	return sums
}

func checkAggs(t *testing.T, what string, got []impl.Agg, want []impl.Agg) {
	t.Helper()
	if !slices.Equal(got, want) {
		t.Fatalf("%s:\ngot  %v\nwant %v", what, got, want)
	}
}

// badLists have one agg that is not AggOk, alone, behind good ones and ahead of them. The good ones
// come in order, and so does the bad one where it can.
func badLists() [][]impl.Agg {
	var lists [][]impl.Agg
	for _, a := range noAggs() {
		lists = append(lists, []impl.Agg{a}, []impl.Agg{anAgg(0, 1, 5), anAgg(2, 1, 5), a}, []impl.Agg{a, anAgg(7, 1, 5)},
			[]impl.Agg{anAgg(0, 1, 5), a, anAgg(7, 1, 5)})
	}
	return lists
}

// Every list of events, cut anywhere: its fold is the merge of the folds of both parts.
func TestFoldOfTwoPartsIsTheMergeOfTheirFolds(t *testing.T) {
	merged, windows := 0, 0
	for seed := range 40 {
		list := someEvents(seed, 30)
		for _, size := range []int{1, 3, 10, 59, impl.MaxTime} {
			whole := impl.FoldAll(list, size)
			checkAggs(t, "fold", whole, foldedPlainly(list, size))
			for cut := range len(list) + 1 {
				a, b := impl.FoldAll(list[:cut], size), impl.FoldAll(list[cut:], size)
				checkAggs(t, "merge of the folds", impl.MergeLists(a, b), whole)
				checkAggs(t, "merge of the folds, the other way round", impl.MergeLists(b, a), whole)
				totals := impl.KeyTotals(slices.Concat(a, b))
				checkAggs(t, "totals of both", totals, impl.KeyTotals(whole))
				checkAggs(t, "totals of all time", totals, impl.FoldAll(list, impl.MaxTime))
				// The lists are worth something only when both parts have the same windows, and a key stands in several.
				merged += len(a) + len(b) - len(whole)
				windows += len(whole) - len(totals)
			}
		}
	}
	if merged < 1000 || windows < 1000 {
		t.Errorf("%d were merged, %d stand beside another window of their key", merged, windows)
	}
}

func TestFoldAll(t *testing.T) {
	const mt, mk, mv = impl.MaxTime, impl.MaxKey, impl.MaxValue
	for _, c := range []struct {
		list []impl.Frame
		size int
		want []impl.Agg
	}{
		{nil, 10, nil},
		{[]impl.Frame{}, 1, nil},
		{[]impl.Frame{event(4, 12, 5)}, 10, []impl.Agg{anAgg(1, 4, 5)}},
		{[]impl.Frame{event(4, 9, 5), event(4, 10, -7)}, 10, []impl.Agg{anAgg(0, 4, 5), anAgg(1, 4, -7)}},
		{[]impl.Frame{event(4, 9, 5), event(4, 10, -7)}, 1, []impl.Agg{anAgg(9, 4, 5), anAgg(10, 4, -7)}},
		{[]impl.Frame{event(4, 9, 5), event(4, 10, -7)}, 11, []impl.Agg{anAgg(0, 4, 5, -7)}},
		// By window, then key.
		{[]impl.Frame{event(9, 30, 1), event(5, 0, 2), event(2, 31, 3), event(7, 8, 4), event(9, 30, -6)}, 10,
			[]impl.Agg{anAgg(0, 5, 2), anAgg(0, 7, 4), anAgg(3, 2, 3), anAgg(3, 9, 1, -6)}},
		// Both ends of time.
		{[]impl.Frame{event(mk, mt, mv), event(0, 0, -mv), event(mk, mt, -mv)}, 1, []impl.Agg{anAgg(0, 0, -mv), anAgg(mt, mk, mv, -mv)}},
		{[]impl.Frame{event(1, mt, mv), event(1, mt-1, 3), event(1, 0, -mv)}, mt, []impl.Agg{anAgg(0, 1, 3, -mv), anAgg(1, 1, mv)}},
		// Marks and byes are no events; no mark closes a window.
		{[]impl.Frame{mark(mt), event(1, 5, 2), bye(), mark(9), event(1, 3, 4), bye()}, 10, []impl.Agg{anAgg(0, 1, 2, 4)}},
		{[]impl.Frame{mark(3), bye()}, 10, nil},
	} {
		checkAggs(t, opsText([]impl.Op{opFeed(c.size, c.list...)}), impl.FoldAll(c.list, c.size), c.want)
	}
}

func TestFoldAllLeavesOutOtherFrames(t *testing.T) {
	for _, f := range noFrames() {
		checkAggs(t, "alone", impl.FoldAll([]impl.Frame{f}, 10), nil)
		checkAggs(t, "among others", impl.FoldAll([]impl.Frame{event(5, 5, 1), f, event(5, 6, 2)}, 10), []impl.Agg{anAgg(0, 5, 1, 2)})
	}
	checkAggs(t, "all", impl.FoldAll(noFrames(), 10), nil)
}

func TestFoldAllRefuses(t *testing.T) {
	list := []impl.Frame{event(1, 2, 3), event(4, 5, 6)}
	for _, size := range noSizes() {
		checkAggs(t, "size", impl.FoldAll(list, size), nil)
		checkAggs(t, "size of none", impl.FoldAll(nil, size), nil)
	}
	for _, n := range []int{impl.MaxList + 1, impl.MaxList + 2, 2 * impl.MaxList} {
		checkAggs(t, "too many", impl.FoldAll(slices.Repeat(list[:1], n), 10), nil)
		// Also where few of them are events.
		checkAggs(t, "too many others", impl.FoldAll(append(list, make([]impl.Frame, n-2)...), 10), nil)
	}
	checkAggs(t, "others", impl.FoldAll(append(list, make([]impl.Frame, impl.MaxList-2)...), 10), []impl.Agg{anAgg(0, 1, 3), anAgg(0, 4, 6)})
}

// A fold holds as many as there are: the bounds of a shard's room are not its own.
func TestFoldAllOfMany(t *testing.T) {
	var same, apart []impl.Frame
	var want []impl.Agg
	for i := range impl.MaxList {
		same = append(same, event(9, 70, impl.MaxValue))
		apart = append(apart, event(i%3, (impl.MaxList-i)*10, i))
		want = append(want, anAgg(impl.MaxList-i, i%3, i))
	}
	slices.Reverse(want)
	checkAggs(t, "apart", impl.FoldAll(apart, 10), want)
	checkAggs(t, "same", impl.FoldAll(same, 10), []impl.Agg{{Win: 7, Key: 9, Count: impl.MaxList, Sum: impl.MaxList * impl.MaxValue, Min: impl.MaxValue, Max: impl.MaxValue}})
	checkAggs(t, "one more", impl.FoldAll(append(apart, event(1, 1, 1)), 10), nil)
}

// A fold is what a single shard without marks holds.
func TestFoldAllIsAShards(t *testing.T) {
	for seed := range 30 {
		list := someEvents(100+seed, 80)
		for _, size := range []int{7, 10, 61, impl.MaxTime} {
			s := impl.NewShard()
			for _, f := range list {
				s, _ = impl.AddEvent(s, size, impl.MaxAggs, f)
			}
			if s.Over > 0 {
				t.Fatalf("there is no room for %v", list)
			}
			checkAggs(t, "shard", impl.FoldAll(list, size), s.Aggs)
		}
	}
}

func TestMergeLists(t *testing.T) {
	one, two, three := anAgg(0, 5, 1, -4), anAgg(1, 5, 7), anAgg(1, 6, -2)
	for _, c := range []struct{ a, b, want []impl.Agg }{
		{nil, nil, nil},
		{[]impl.Agg{}, []impl.Agg{}, nil},
		{[]impl.Agg{one}, nil, []impl.Agg{one}},
		{nil, []impl.Agg{one, two}, []impl.Agg{one, two}},
		{[]impl.Agg{one}, []impl.Agg{two}, []impl.Agg{one, two}},
		{[]impl.Agg{three}, []impl.Agg{one, two}, []impl.Agg{one, two, three}},
		{[]impl.Agg{one, three}, []impl.Agg{two}, []impl.Agg{one, two, three}},
		// The same window and key on both sides.
		{[]impl.Agg{one}, []impl.Agg{anAgg(0, 5, 9)}, []impl.Agg{anAgg(0, 5, 1, -4, 9)}},
		{[]impl.Agg{one, two}, []impl.Agg{two, three}, []impl.Agg{one, anAgg(1, 5, 7, 7), three}},
		// One key in two windows, one window with two keys.
		{[]impl.Agg{anAgg(3, 5, 1), anAgg(4, 5, 2)}, []impl.Agg{anAgg(3, 6, 3), anAgg(4, 5, 4)}, []impl.Agg{anAgg(3, 5, 1), anAgg(3, 6, 3), anAgg(4, 5, 2, 4)}},
		// Lists in no order, and with the same twice.
		{[]impl.Agg{three, one, two}, nil, []impl.Agg{one, two, three}},
		{[]impl.Agg{two, one, two}, []impl.Agg{one}, []impl.Agg{anAgg(0, 5, 1, -4, 1, -4), anAgg(1, 5, 7, 7)}},
		{nil, []impl.Agg{two, three, two, two}, []impl.Agg{anAgg(1, 5, 7, 7, 7), three}},
	} {
		checkAggs(t, "a, b", impl.MergeLists(c.a, c.b), c.want)
		checkAggs(t, "b, a", impl.MergeLists(c.b, c.a), c.want)
	}
}

// aSum is of one window and key, whatever its sum.
func aSum(count int, sum int) impl.Agg {
	return impl.Agg{Win: 2, Key: 3, Count: count, Sum: sum, Min: -1, Max: 1}
}

// Numbers are held at their bounds as MergeAggs holds them, one behind the other.
func TestMergedListsHoldTheirNumbers(t *testing.T) {
	const top = impl.MaxSum
	for _, c := range []struct {
		a, b []impl.Agg
		want impl.Agg
	}{
		{[]impl.Agg{aSum(1, top-5)}, []impl.Agg{aSum(2, 5)}, aSum(3, top)},
		{[]impl.Agg{aSum(1, top-5)}, []impl.Agg{aSum(2, 6)}, aSum(3, top)},
		{[]impl.Agg{aSum(1, -top+5)}, []impl.Agg{aSum(2, -6)}, aSum(3, -top)},
		{[]impl.Agg{aSum(top-1, 0)}, []impl.Agg{aSum(1, 0)}, aSum(top, 0)},
		{[]impl.Agg{aSum(top, top)}, []impl.Agg{aSum(top, top)}, aSum(top, top)},
		{[]impl.Agg{aSum(1, top), aSum(1, 8)}, []impl.Agg{aSum(1, -5)}, aSum(3, top-5)},
		{[]impl.Agg{aSum(1, -5), aSum(1, top)}, []impl.Agg{aSum(1, 8)}, aSum(3, top)},
		{[]impl.Agg{aSum(1, -top), aSum(1, -8)}, []impl.Agg{aSum(1, 5), aSum(1, 1)}, aSum(4, -top+6)},
	} {
		checkAggs(t, "merge", impl.MergeLists(c.a, c.b), []impl.Agg{c.want})
		total := c.want
		total.Win = 0
		checkAggs(t, "totals", impl.KeyTotals(slices.Concat(c.a, c.b)), []impl.Agg{total})
	}
}

// Also in long lists those of one window and key are merged in their order.
func TestMergeListsOfMany(t *testing.T) {
	const top = impl.MaxSum
	var a, b, want []impl.Agg
	for win := range 50 {
		for i := range 20 {
			a = append(a, impl.Agg{Win: win, Key: i % 2, Count: 1, Sum: top - 20 + i})
		}
		b = append(b, impl.Agg{Win: win, Key: 1, Count: 1, Sum: -top}, impl.Agg{Win: win, Key: 0, Count: 1, Sum: -7})
		want = append(want, impl.Agg{Win: win, Key: 0, Count: 11, Sum: top - 7}, impl.Agg{Win: win, Key: 1, Count: 11})
	}
	checkAggs(t, "many", impl.MergeLists(a, b), want)
	slices.Reverse(b)
	checkAggs(t, "many, turned", impl.MergeLists(a, b), want)
}

func TestMergingRefuses(t *testing.T) {
	good := []impl.Agg{anAgg(0, 1, 5), anAgg(3, 4, 5)}
	for _, list := range badLists() {
		checkAggs(t, "both", impl.MergeLists(list, list), nil)
		checkAggs(t, "left", impl.MergeLists(list, good), nil)
		checkAggs(t, "right", impl.MergeLists(good, list), nil)
		checkAggs(t, "alone", impl.MergeLists(nil, list), nil)
		checkAggs(t, "totals", impl.KeyTotals(list), nil)
	}
	for _, a := range someAggs() {
		checkAggs(t, "good", impl.MergeLists([]impl.Agg{a}, nil), []impl.Agg{a})
	}
}

func TestKeyTotals(t *testing.T) {
	for _, c := range []struct{ list, want []impl.Agg }{
		{nil, nil},
		{[]impl.Agg{}, nil},
		{[]impl.Agg{anAgg(0, 5, 1, 2)}, []impl.Agg{anAgg(0, 5, 1, 2)}},
		{[]impl.Agg{anAgg(7, 5, 1, 2)}, []impl.Agg{anAgg(0, 5, 1, 2)}},
		// One key in two windows.
		{[]impl.Agg{anAgg(3, 5, 1, 2), anAgg(4, 5, -9)}, []impl.Agg{anAgg(0, 5, 1, 2, -9)}},
		{[]impl.Agg{anAgg(4, 5, -9), anAgg(0, 5, 1, 2)}, []impl.Agg{anAgg(0, 5, 1, 2, -9)}},
		// By key, however their windows come.
		{[]impl.Agg{anAgg(1, 9, 1), anAgg(2, 5, 2), anAgg(3, 7, 3)}, []impl.Agg{anAgg(0, 5, 2), anAgg(0, 7, 3), anAgg(0, 9, 1)}},
		{[]impl.Agg{anAgg(1, 9, 1), anAgg(1, 5, 2), anAgg(2, 9, 3), anAgg(3, 0, 6), anAgg(3, 5, 4), anAgg(1, 9, 5)},
			[]impl.Agg{anAgg(0, 0, 6), anAgg(0, 5, 2, 4), anAgg(0, 9, 1, 3, 5)}},
		{[]impl.Agg{anAgg(impl.MaxTime, impl.MaxKey, 1), anAgg(0, impl.MaxKey, 4), anAgg(impl.MaxTime, 0, 2)}, []impl.Agg{anAgg(0, 0, 2), anAgg(0, impl.MaxKey, 1, 4)}},
	} {
		checkAggs(t, "totals", impl.KeyTotals(c.list), c.want)
	}
}

func TestEmittedOnce(t *testing.T) {
	one := anAgg(3, 5, 1, 2)
	good := [][]impl.Agg{
		nil, {}, {one}, {one, anAgg(4, 5, 1, 2)}, {one, anAgg(3, 6, 1, 2)}, {anAgg(5, 3, 1, 2), one},
		// In no order, and many of them.
		{anAgg(4, 5, 1), anAgg(3, 6, 1), one, anAgg(3, 4, 1), anAgg(2, 5, 1), anAgg(4, 6, 1), anAgg(2, 6, 1)},
		impl.FoldAll(someEvents(1, impl.MaxList), 1), fullShard(impl.MaxAggs).Aggs, fullShard(5 * impl.MaxList).Aggs, someAggs()[1:5],
	}
	for _, list := range good {
		if !impl.EmittedOnce(list) {
			t.Errorf("EmittedOnce(%v) is false", list)
		}
		for i, a := range list {
			// Whatever else differs, the same window and key is the same.
			a.Count, a.Sum, a.Min, a.Max = 7, 9, 1, 5
			twice := slices.Insert(slices.Clone(list), (i*7)%(len(list)+1), a)
			if len(list) < 100 && impl.EmittedOnce(twice) {
				t.Errorf("EmittedOnce(%v) is true", twice)
			}
		}
	}
	for _, list := range badLists() {
		if impl.EmittedOnce(list) {
			t.Errorf("EmittedOnce(%v) is true", list)
		}
	}
}

func checkOrder(t *testing.T, list []impl.Agg, shards int, want bool) {
	t.Helper()
	if got := impl.EmittedInOrder(list, shards); got != want {
		t.Errorf("EmittedInOrder(%v, %d) is %t", list, shards, got)
	}
}

func TestEmittedInOrder(t *testing.T) {
	// By window, then key: one key in two windows, two keys in one.
	rising := []impl.Agg{anAgg(0, 5, 1), anAgg(1, 5, 1), anAgg(1, 6, 1), anAgg(1, 9, 1), anAgg(2, 0, 1), anAgg(2, 5, 1), anAgg(9, 4, 1)}
	for shards := 1; shards <= 4; shards++ {
		checkOrder(t, nil, shards, true)
		checkOrder(t, []impl.Agg{}, shards, true)
		checkOrder(t, rising, shards, true)
		checkOrder(t, someAggs()[4:5], shards, true)
		for _, list := range badLists() {
			checkOrder(t, list, shards, false)
		}
	}
	falling := slices.Clone(rising)
	slices.Reverse(falling)
	checkOrder(t, falling, 1, false)
	for i := 1; i < len(rising); i++ {
		list := slices.Clone(rising)
		list[i-1], list[i] = list[i], list[i-1]
		checkOrder(t, list, 1, false)
		// The same twice does not rise.
		checkOrder(t, slices.Insert(slices.Clone(rising), i, rising[i-1]), 1, false)
	}
	checkOrder(t, []impl.Agg{anAgg(1, 5, 1), anAgg(1, 5, 2)}, 4, false)
	checkOrder(t, []impl.Agg{anAgg(2, 5, 1), anAgg(1, 5, 1)}, 4, false)
}

// Aggs of different shards need not rise against each other; those of one shard need to, whatever stands between them.
func TestEmittedInOrderOfEachShard(t *testing.T) {
	for shards := 2; shards <= 4; shards++ {
		for low := range shards {
			high := (low + 1) % shards
			a, b := impl.KeysOf(low, shards, 2), impl.KeysOf(high, shards, 2)
			checkOrder(t, []impl.Agg{anAgg(9, b[0], 1), anAgg(2, a[0], 1)}, shards, true)
			checkOrder(t, []impl.Agg{anAgg(9, b[0], 1), anAgg(2, a[0], 1)}, 1, false)
			checkOrder(t, []impl.Agg{anAgg(2, max(a[0], b[0]), 1), anAgg(2, min(a[0], b[0]), 1)}, shards, true)
			checkOrder(t, []impl.Agg{anAgg(9, b[0], 1), anAgg(2, a[0], 1), anAgg(9, b[1], 1), anAgg(2, a[1], 1), anAgg(10, b[0], 1), anAgg(3, a[0], 1)}, shards, true)
			checkOrder(t, []impl.Agg{anAgg(2, a[0], 1), anAgg(9, b[0], 1), anAgg(1, a[0], 1)}, shards, false)
			checkOrder(t, []impl.Agg{anAgg(2, a[1], 1), anAgg(9, b[0], 1), anAgg(2, a[0], 1)}, shards, false)
			checkOrder(t, []impl.Agg{anAgg(2, a[1], 1), anAgg(9, b[0], 1), anAgg(2, a[1], 1)}, shards, false)
			checkOrder(t, []impl.Agg{anAgg(2, a[1], 1), anAgg(0, b[1], 1), anAgg(3, a[1], 1), anAgg(0, b[0], 1)}, shards, false)
		}
	}
}

func TestEmittedInOrderRefusesShards(t *testing.T) {
	for _, shards := range noShardCounts() {
		checkOrder(t, nil, shards, false)
		checkOrder(t, []impl.Agg{anAgg(0, 5, 1)}, shards, false)
		checkOrder(t, []impl.Agg{anAgg(0, 5, 1), anAgg(1, 5, 1)}, shards, false)
	}
}

func checkInTime(t *testing.T, list []impl.Agg, size int, mark int, want bool) {
	t.Helper()
	if got := impl.InTime(list, size, mark); got != want {
		t.Errorf("InTime(%v, %d, %d) is %t", list, size, mark, got)
	}
}

func TestInTime(t *testing.T) {
	for _, size := range someSizes() {
		for _, win := range []int{0, 1, 2, 7, impl.MaxTime} {
			// An end may be greater than any time.
			end := (win+1)*size - 1
			list := []impl.Agg{anAgg(win, 5, 1)}
			checkInTime(t, list, size, end, true)
			checkInTime(t, list, size, end+1, true)
			checkInTime(t, list, size, end-1, false)
			checkInTime(t, list, size, math.MaxInt, true)
			checkInTime(t, list, size, noMark, false)
			checkInTime(t, list, size, math.MinInt, false)
		}
	}
	// The latest of them counts, wherever it stands.
	for i := range 3 {
		list := []impl.Agg{anAgg(0, 5, 1), anAgg(1, 5, 1), anAgg(1, 0, 1)}
		list[i].Win = 3
		checkInTime(t, list, 10, 39, true)
		checkInTime(t, list, 10, 38, false)
	}
	for _, mark := range append(someMarks(), noMarks()...) {
		checkInTime(t, nil, 10, mark, true)
		checkInTime(t, []impl.Agg{}, 1, mark, true)
	}
}

func TestInTimeRefuses(t *testing.T) {
	for _, size := range noSizes() {
		for _, mark := range []int{noMark, 0, 19, impl.MaxTime, math.MaxInt, math.MinInt} {
			checkInTime(t, nil, size, mark, true)
			checkInTime(t, []impl.Agg{}, size, mark, true)
			checkInTime(t, []impl.Agg{anAgg(0, 5, 1)}, size, mark, false)
			checkInTime(t, fullShard(3).Aggs, size, mark, false)
		}
	}
	for _, list := range badLists() {
		checkInTime(t, list, 10, math.MaxInt, false)
		checkInTime(t, list, 1, impl.MaxTime, false)
		checkInTime(t, list, 0, math.MaxInt, false)
	}
}

func TestTotalCount(t *testing.T) {
	const top = impl.MaxSum
	for _, c := range []struct {
		list []impl.Agg
		want int
	}{
		{nil, 0}, {[]impl.Agg{}, 0}, {[]impl.Agg{anAgg(3, 5, 1, 2)}, 2}, {[]impl.Agg{anAgg(3, 5, 1, 2), anAgg(4, 5, 1)}, 3},
		{[]impl.Agg{anAgg(3, 5, 1, 2), anAgg(3, 5, 1, 2)}, 4}, {fullShard(impl.MaxAggs).Aggs, 2 * impl.MaxAggs}, {fullShard(1000).Aggs, 2000},
		{[]impl.Agg{aSum(top, 0)}, top}, {[]impl.Agg{aSum(top-1, 0), aSum(1, 0)}, top}, {[]impl.Agg{aSum(top-2, 0), aSum(1, 0)}, top - 1},
		{[]impl.Agg{aSum(top-1, 0), aSum(2, 0)}, top}, {[]impl.Agg{aSum(top, 0), aSum(top, 0), aSum(1, 0)}, top},
		{slices.Repeat([]impl.Agg{aSum(top, 0)}, 5000), top}, {slices.Repeat([]impl.Agg{aSum(top/5000, 0)}, 5000), top},
		{noAggs(), 0},
	} {
		if got := impl.TotalCount(c.list); got != c.want {
			t.Errorf("TotalCount(%v) = %d, want %d", c.list, got, c.want)
		}
	}
	for _, a := range noAggs() {
		if got := impl.TotalCount([]impl.Agg{anAgg(3, 5, 1, 2), a, anAgg(4, 5, 1)}); got != 3 {
			t.Errorf("TotalCount with %v = %d", a, got)
		}
	}
}

func TestTotalOf(t *testing.T) {
	const top = impl.MaxSum
	two := func(counts ...int) []impl.Agg {
		var list []impl.Agg
		for i, n := range counts {
			list = append(list, impl.Agg{Win: i, Count: n})
		}
		return list
	}
	for _, c := range []struct {
		first, second, out []impl.Agg
		want               int
	}{
		{nil, nil, nil, 0}, {two(5), nil, nil, 5}, {nil, two(6), nil, 6}, {nil, nil, two(7), 7}, {two(5, 1), two(6, 2), two(7, 3), 24},
		{two(top), nil, nil, top}, {two(top-3, 1), two(1), two(1), top}, {two(top-3, 1), two(1), nil, top - 1}, {two(top-3, 1), two(1), two(2), top},
		{two(top, top), two(top), two(top, top), top}, {two(1), nil, two(top, 1), top},
		// Nothing is said of what stands in Out: it counts as it is.
		{two(20), nil, two(-5, 0), 15}, {two(20), nil, []impl.Agg{{Win: -1, Count: 2}, {Count: 3, Min: 1}}, 25},
		{two(20), nil, two(math.MaxInt, math.MaxInt), top}, {two(20), nil, two(math.MaxInt, math.MinInt), 19}, {two(20), nil, two(math.MinInt, math.MinInt), math.MinInt},
		{two(20), nil, two(math.MaxInt), top}, {nil, nil, two(math.MinInt, -1), math.MinInt},
		{nil, two(9), two(math.MinInt, 0), math.MinInt + 9}, {two(top), two(top), two(-top, -top), 0}, {two(top), two(top), two(-top + 1), top},
	} {
		e := aSafeEngine()
		e.Shards[0].Aggs, e.Shards[1].Aggs, e.Out = c.first, c.second, c.out
		if got := impl.TotalOf(e); got != c.want {
			t.Errorf("TotalOf with %v, %v, %v = %d, want %d", c.first, c.second, c.out, got, c.want)
		}
	}
	if got := impl.TotalOf(aSafeEngine()); got != 6 {
		t.Errorf("TotalOf(%+v) = %d", aSafeEngine(), got)
	}
}

// anEngineThatAdds is a safe engine, whose four events in flight are in its tally.
func anEngineThatAdds() impl.Engine {
	e := aSafeEngine()
	e.Tally.Read += 4
	return e
}

func TestCountsAdd(t *testing.T) {
	if e := anEngineThatAdds(); !impl.CountsAdd(e) {
		t.Errorf("CountsAdd(%+v) is false", e)
	}
	for _, by := range []int{-4, -1, 1, 4, 1 << 32, -1 << 32, math.MinInt} {
		for i := range 4 {
			e := anEngineThatAdds()
			numbers := []*int{&e.Tally.Read, &e.Tally.Taken, &e.Tally.Late, &e.Tally.Over}
			*numbers[i] += by
			if impl.CountsAdd(e) {
				t.Errorf("CountsAdd(%+v) is true", e)
			}
		}
	}
	// What is lost on its way, or comes twice.
	for _, change := range []func(e *impl.Engine){
		func(e *impl.Engine) { e.In = e.In[:1] }, func(e *impl.Engine) { e.Queues[0] = nil },
		func(e *impl.Engine) { e.Queues[1] = e.Queues[1][1:] }, func(e *impl.Engine) { e.Queues[0] = slices.Repeat(e.Queues[0], 2) },
	} {
		e := anEngineThatAdds()
		change(&e)
		if impl.CountsAdd(e) {
			t.Errorf("CountsAdd(%+v) is true", e)
		}
	}
	// Marks alone are no events, and the other numbers do not count.
	e := anEngineThatAdds()
	e.Queues[1], e.Tally.Bent, e.Tally.Refused = e.Queues[1][:2], 1000, -1
	if !impl.CountsAdd(e) {
		t.Errorf("CountsAdd(%+v) is false", e)
	}
}

// No sum turns over, whatever stands in the tally.
func TestCountsAddOfAnyNumbers(t *testing.T) {
	const most, least = math.MaxInt, math.MinInt
	for _, c := range []struct {
		read, taken, late, over int
		want                    bool
	}{
		{0, 0, 0, 0, true}, {impl.MaxSum, impl.MaxSum - 1, 1, 0, true}, {most, most, 0, 0, true}, {most, most - 2, 1, 1, true}, {-1, most, least, 0, true},
		{least, least, 0, 0, true}, {least + 5, 2, least, 3, true}, {-7, -2, -2, -3, true}, {1<<32 - 1, 1 << 31, 1<<31 - 1, 0, true}, {1 << 33, 1 << 32, 1<<32 - 1, 1, true},
		{least, most, 1, 0, false}, {-2, most, most, 0, false}, {0, least, least, 0, false}, {most, least, -1, 0, false}, {most - 2, most, most, most, false},
		{1, most, most, 3, false}, {0, 1 << 62, 1 << 62, least, true}, {0, 1 << 32, -1, 0, false}, {0, 1<<32 - 1, 1, 0, false},
	} {
		e, _ := impl.NewEngine(impl.DefaultSetup())
		e.Tally = impl.Tally{Read: c.read, Taken: c.taken, Late: c.late, Over: c.over}
		if got := impl.CountsAdd(e); got != c.want {
			t.Errorf("CountsAdd with %+v is %t", e.Tally, got)
		}
	}
}

// An engine that is not safe has no story, whatever its tally says.
func TestStoryOfNoEngines(t *testing.T) {
	check := func(name string, e impl.Engine) {
		e.Tally = impl.Tally{Read: 12 + impl.InFlight(e), Taken: 3, Late: 4, Over: 5}
		if impl.CountsAdd(e) || impl.TotalOf(e) != -1 {
			t.Errorf("%s: CountsAdd(%+v) is %t, TotalOf is %d", name, e, impl.CountsAdd(e), impl.TotalOf(e))
		}
	}
	check("the zero engine", impl.Engine{})
	for _, c := range noEngines() {
		e := aSafeEngine()
		c.change(&e)
		check(c.name, e)
	}
}

func TestSameAggs(t *testing.T) {
	list := []impl.Agg{anAgg(3, 5, 1, 2), anAgg(4, 5, -1), {}, {Win: -1, Count: math.MinInt}}
	check := func(a []impl.Agg, b []impl.Agg, want bool) {
		t.Helper()
		if impl.SameAggs(a, b) != want || impl.SameAggs(b, a) != want {
			t.Errorf("SameAggs(%v, %v) is %t", a, b, !want)
		}
	}
	check(nil, nil, true)
	check(nil, []impl.Agg{}, true)
	check(nil, []impl.Agg{{}}, false)
	for n := range len(list) + 1 {
		check(list[:n], slices.Clone(list[:n]), true)
		for m := range n {
			check(list[:n], list[:m], false)
			check(list[:n], list[n-m:n], false)
		}
	}
	check(list, []impl.Agg{list[1], list[0], list[2], list[3]}, false)
	check([]impl.Agg{list[0], list[0]}, []impl.Agg{list[0], list[1]}, false)
	for i := range list {
		for _, by := range []int{1, -1, 1 << 32} {
			for field := range 6 {
				other := slices.Clone(list)
				a := &other[i]
				*[]*int{&a.Win, &a.Key, &a.Count, &a.Sum, &a.Min, &a.Max}[field] += by
				check(list, other, false)
			}
		}
	}
}

func checkEvents(t *testing.T, ops []impl.Op, want ...impl.Frame) {
	t.Helper()
	if got := impl.EventsIn(ops); !slices.Equal(got, want) {
		t.Errorf("EventsIn(%v) = %v, want %v", opsText(ops), got, want)
	}
}

func TestEventsIn(t *testing.T) {
	one, two, three := event(1, 2, 3), event(impl.MaxKey, impl.MaxTime, impl.MaxValue), event(0, 0, -impl.MaxValue)
	checkEvents(t, nil)
	checkEvents(t, []impl.Op{})
	checkEvents(t, []impl.Op{opOpen(), opTick(1), opRead(0), opRoute(), opEnd()})
	checkEvents(t, []impl.Op{opFeed(0)})
	checkEvents(t, []impl.Op{opFeed(0, one)}, one)
	checkEvents(t, []impl.Op{opFeed(0, one, two), opFeed(0, three, one)}, one, two, three, one)
	// The place 0 first, whichever was fed first.
	checkEvents(t, []impl.Op{opFeed(1, one), opFeed(0, two)}, two, one)
	checkEvents(t, []impl.Op{opFeed(11, one), opFeed(3, two), opFeed(11, two), opFeed(0, three), opFeed(3, three)}, three, two, three, one, two)
	// Marks and byes are no events; what stands behind a bye counts.
	checkEvents(t, []impl.Op{opFeed(0, mark(3), one, bye(), two, mark(1)), opFeed(1, bye()), opFeed(2, mark(5), mark(6), three)}, one, two, three)
	// Whether something is open, read or ended is not asked.
	checkEvents(t, []impl.Op{opEnd(), opFeed(5, one), opClose(5), opFeed(5, two)}, one, two)
	// What is not whole yet is no event.
	checkEvents(t, []impl.Op{opBytes(0, bytesOf(one, two)[:2*eventSize-1]), opFeed(1, three)}, one, three)
}

// However the bytes of a place are cut into feeds, and whatever is fed to others between them.
func TestEventsInOfCutFrames(t *testing.T) {
	first := []impl.Frame{event(1, 2, 3), mark(4), event(5, 6, 7), bye(), event(8, 9, 10)}
	second := []impl.Frame{event(11, 12, 13), event(14, 15, 16)}
	want := []impl.Frame{first[0], first[2], first[4], second[0], second[1]}
	b, c := bytesOf(first...), bytesOf(second...)
	for cut := range len(b) + 1 {
		for _, other := range []int{0, 1, 5, eventSize, len(c) - 1, len(c)} {
			checkEvents(t, []impl.Op{opBytes(7, c[:other]), opBytes(2, b[:cut]), opBytes(7, c[other:]), opBytes(2, nil), opBytes(2, b[cut:])}, want...)
		}
	}
	var ops []impl.Op
	for i := range b {
		ops = append(ops, opBytes(2, b[i:i+1]))
		if i < len(c) {
			ops = append(ops, opBytes(7, c[i:i+1]))
		}
	}
	checkEvents(t, ops, want...)
}

func TestEventsInOfNoPlaces(t *testing.T) {
	one, two := event(1, 2, 3), event(4, 5, 6)
	for _, place := range noPlaces(impl.MaxConns) {
		checkEvents(t, []impl.Op{opFeed(place, one)})
		checkEvents(t, []impl.Op{opFeed(0, one), opFeed(place, one), opFeed(impl.MaxConns-1, two), opBytes(place, bent())}, one, two)
	}
	for place := range impl.MaxConns {
		checkEvents(t, []impl.Op{opFeed(place, one)}, one)
	}
	for _, kind := range []int{-1, 0, 1, 3, 4, 5, 6, 7, 8, 9, 1<<32 + 2, math.MaxInt, math.MinInt} {
		checkEvents(t, []impl.Op{{Kind: kind, Data: bytesOf(one)}, opFeed(0, two), {Kind: kind, Data: bent()}}, two)
	}
	// A feed has no B.
	checkEvents(t, []impl.Op{{Kind: 2, A: 3, B: 5, Data: bytesOf(one)}, {Kind: 2, A: 2, B: 9, Data: bytesOf(two)}}, two, one)
}

func TestEventsInOfBadBytes(t *testing.T) {
	one, two, three := event(1, 2, 3), event(4, 5, 6), event(7, 8, 9)
	checkEvents(t, []impl.Op{opBytes(0, bent())})
	checkEvents(t, []impl.Op{opFeed(0, one), opBytes(0, bent()), opFeed(0, two), opFeed(1, three)}, one, three)
	checkEvents(t, []impl.Op{opFeed(1, three), opBytes(0, bent()), opFeed(0, two)}, three)
	for place := range 2 * eventSize {
		b := bytesOf(one, two, three)
		b[eventSize+place] ^= 1
		want := []impl.Frame{one, two}[:1+place/eventSize]
		checkEvents(t, []impl.Op{opBytes(4, b), opFeed(5, two)}, append(slices.Clone(want), two)...)
	}
}

// filled has as many bytes as fit, 26 events and 4 marks.
func filled() ([]byte, []impl.Frame) {
	var events []impl.Frame
	for i := range 26 {
		events = append(events, event(i, i*i, -i))
	}
	return append(bytesOf(events...), bytesOf(mark(1), mark(2), mark(3), mark(4))...), events
}

func TestEventsInOfAFullPlace(t *testing.T) {
	b, events := filled()
	other := event(60000, 1, 1)
	if len(b) != impl.MaxBuf || 26*eventSize+4*markSize != impl.MaxBuf {
		t.Fatalf("%d bytes", len(b))
	}
	whole := append([]impl.Frame{other}, append(slices.Clone(events), other)...)
	for _, cut := range []int{0, 1, eventSize, 200, len(b) - 1, len(b)} {
		around := func(ops ...impl.Op) []impl.Op {
			return slices.Concat([]impl.Op{opFeed(9, other), opFeed(3, other)}, ops)
		}
		checkEvents(t, around(opBytes(6, b[:cut]), opBytes(6, b[cut:])), whole...)
		checkEvents(t, around(opBytes(6, b[:cut]), opBytes(6, nil), opBytes(6, b[cut:]), opBytes(6, []byte{})), whole...)
		// One byte more, and the whole place is left out, also where the feed that is too long comes first or others come behind it.
		long := append(slices.Clone(b), 14)
		checkEvents(t, around(opBytes(6, long[:cut]), opBytes(6, long[cut:])), other, other)
		checkEvents(t, around(opBytes(6, long[:cut]), opBytes(6, long[cut:]), opBytes(6, nil), opFeed(6, other)), other, other)
		checkEvents(t, around(opBytes(6, b[:cut]), opBytes(6, b[cut:]), opBytes(6, []byte{0})), other, other)
		checkEvents(t, around(opBytes(6, b[:cut]), opBytes(6, slices.Repeat(b, 50)), opFeed(6, other)), other, other)
	}
	// A place that fits may be full of the beginning of a frame, or of bad bytes.
	checkEvents(t, []impl.Op{opBytes(0, append(bytesOf(events...), bytesOf(other, other, other)[:36]...))}, append(slices.Clone(events), other, other)...)
	checkEvents(t, []impl.Op{opBytes(0, append(bytesOf(events...), make([]byte, 36)...))}, events...)
	checkEvents(t, []impl.Op{opBytes(0, append(bytesOf(events...), make([]byte, 37)...))})
	// Every place can be full.
	var ops []impl.Op
	var want []impl.Frame
	for place := range impl.MaxConns {
		ops = append(ops, opBytes(place, b))
		want = append(want, events...)
	}
	checkEvents(t, ops, want...)
}

func TestEventsInOfTheFirstOps(t *testing.T) {
	one, two := event(1, 2, 3), event(4, 5, 6)
	ticks := slices.Repeat([]impl.Op{opTick(1)}, impl.MaxOps-1)
	full := append(slices.Clone(ticks), opFeed(1, one))
	checkEvents(t, full, one)
	checkEvents(t, append(slices.Clone(full), opFeed(0, two)), one)
	checkEvents(t, append(slices.Clone(full), opFeed(1, two), opFeed(1, two)), one)
	checkEvents(t, append(slices.Clone(ticks), opTick(1), opFeed(1, one)))
	// What comes behind them makes nothing too long, and ends no frame.
	b, events := filled()
	full[impl.MaxOps-1] = opBytes(1, b)
	checkEvents(t, append(slices.Clone(full), opFeed(1, two)), events...)
	full[impl.MaxOps-1] = opBytes(1, bytesOf(one, two)[:2*eventSize-1])
	checkEvents(t, append(slices.Clone(full), opBytes(1, bytesOf(two)[eventSize-1:])), one)
}

// checkStory checks all that a story must keep to behind every op.
func checkStory(t *testing.T, s impl.Setup, ops []impl.Op) (impl.Engine, []impl.Agg) {
	t.Helper()
	var last impl.Engine
	var all []impl.Agg
	for n := range len(ops) + 1 {
		e, out, _, ok := impl.PlayEngine(s, ops[:n])
		if !ok || !impl.CountsAdd(e) || !impl.EmittedOnce(out) || !impl.EmittedInOrder(out, s.Shards) {
			t.Fatalf("%v: %t; counts add: %t, once: %t, in order: %t: %v, %+v", opsText(ops[:n]), ok, impl.CountsAdd(e),
				impl.EmittedOnce(out), impl.EmittedInOrder(out, s.Shards), out, e)
		}
		if e.Mode == impl.ModeRuns && !impl.InTime(out, s.Size, e.Mark) {
			t.Fatalf("%v: %v is not in time at %d", opsText(ops[:n]), out, e.Mark)
		}
		if emitted, held := impl.TotalCount(out), impl.TotalOf(e); e.Tally.Taken != emitted+held {
			t.Fatalf("%v: %d taken, %d emitted, %d held: %+v", opsText(ops[:n]), e.Tally.Taken, emitted, held, e)
		}
		if fed := len(impl.EventsIn(ops[:n])); e.Tally.Read > fed && e.Tally.Refused == 0 {
			t.Fatalf("%v: %d events are read, %d are fed", opsText(ops[:n]), e.Tally.Read, fed)
		}
		last, all = e, out
	}
	return last, all
}

func TestStoriesOfMesses(t *testing.T) {
	emitted, held, flying, ahead := 0, 0, 0, 0
	for seed := range 40 {
		s, ops := aMess(1000+seed, impl.MaxOps*(1+seed%3)/3)
		e, out := checkStory(t, s, ops)
		emitted, held, flying = emitted+len(out), held+impl.TotalOf(e), flying+impl.InFlight(e)
		if !impl.InTime(out, s.Size, e.Mark) {
			ahead++
		}
	}
	// The runs are worth something only when all of it came about: behind the end sums come out ahead of their time, too.
	if min(emitted, held, flying) < 20 || ahead < 3 {
		t.Errorf("%d emitted, %d held, %d in flight, %d ahead of their time", emitted, held, flying, ahead)
	}
}

// What comes out of a run to its end is the fold of what came in.
func TestStoriesOfWholeRuns(t *testing.T) {
	for seed := range 10 {
		for _, s := range []impl.Setup{
			impl.DefaultSetup(),
			{Sources: 2, Shards: 1, Size: 1, Late: 3, CapIn: 1, CapShard: 1, CapOut: 1, Room: 40},
			{Sources: 2, Shards: 4, Size: 25, CapIn: 2, CapShard: 1, CapOut: 3, Room: 40},
		} {
			s.IdleAfter = 0
			r := wholeRun(t, s, 500+seed)
			e, out := checkStory(t, s, r.ops)
			events := impl.EventsIn(r.ops)
			want := impl.FoldAll(events, s.Size)
			if !impl.SameAggs(impl.MergeLists(out, nil), want) || !impl.SameAggs(impl.KeyTotals(out), impl.KeyTotals(want)) {
				t.Fatalf("%v: emitted %v, want %v", opsText(r.ops), out, want)
			}
			if e.Tally.Read != len(events) || impl.TotalCount(out) != len(events) || impl.TotalOf(e) != 0 {
				t.Fatalf("%v: %d came in, %d out, %d are left: %+v", opsText(r.ops), len(events), impl.TotalCount(out), impl.TotalOf(e), e)
			}
		}
	}
}

// lentAggs has room behind the list; its check finds what was written into it or behind it, and what
// of an answer lies in its memory.
func lentAggs(list ...impl.Agg) ([]impl.Agg, func(t *testing.T, what string, answer []impl.Agg)) {
	given := append(make([]impl.Agg, 0, len(list)+5), list...)
	return given, func(t *testing.T, what string, answer []impl.Agg) {
		t.Helper()
		kept := slices.Concat(list, make([]impl.Agg, 5))
		if !slices.Equal(given[:cap(given)], kept) {
			t.Errorf("%s: %v was written into: %v", what, list, given[:cap(given)])
		}
		for i := range answer[:cap(answer)] {
			answer[:cap(answer)][i] = impl.Agg{Win: -77}
		}
		if !slices.Equal(given[:cap(given)], kept) {
			t.Errorf("%s: the answer shares memory with %v", what, list)
		}
	}
}

func TestStoriesLeaveTheirLists(t *testing.T) {
	a, checkA := lentAggs(anAgg(4, 5, 1), anAgg(3, 6, 1), anAgg(3, 5, 1), anAgg(4, 5, 2))
	b, checkB := lentAggs(anAgg(9, 5, 1), anAgg(1, 6, 1))
	single, checkSingle := lentAggs(anAgg(0, 5, 1))
	impl.EmittedOnce(a)
	impl.EmittedInOrder(a, 2)
	impl.InTime(a, 10, 99)
	impl.TotalCount(a)
	impl.SameAggs(a, b)
	checkA(t, "checks", nil)
	for _, answer := range [][]impl.Agg{impl.MergeLists(a, b), impl.MergeLists(b, a), impl.MergeLists(a, nil), impl.MergeLists(nil, a), impl.KeyTotals(a)} {
		checkA(t, "merge", answer)
		checkB(t, "merge", answer)
	}
	for _, answer := range [][]impl.Agg{impl.MergeLists(single, nil), impl.MergeLists(nil, single), impl.KeyTotals(single)} {
		checkSingle(t, "one", answer)
	}
	e := aSafeEngine()
	e.Out = append(make([]impl.Agg, 0, 20), e.Out...)
	if impl.TotalOf(e) != 6 || impl.CountsAdd(e) || !sameEngine(e, aSafeEngine()) || e.Out[:20][2] != (impl.Agg{}) {
		t.Errorf("%+v", e)
	}
}

func TestEventsLeaveTheirLists(t *testing.T) {
	frames := []impl.Frame{event(4, 40, 1), mark(3), event(1, 2, 3), {Kind: 9}, event(4, 40, 1)}
	was := slices.Clone(frames)
	impl.FoldAll(frames, 10)
	if !slices.Equal(frames, was) {
		t.Errorf("%v became %v", was, frames)
	}
	b := append(make([]byte, 0, 60), bytesOf(event(1, 2, 3), bye())...)
	ops := []impl.Op{opBytes(0, b[:9]), opBytes(0, b[9:]), opBytes(1, b)}
	kept := slices.Clone(b[:cap(b)])
	text := opsText(ops)
	first := impl.EventsIn(ops)
	second := impl.EventsIn(ops)
	first[0].Key = 77
	if len(b) != eventSize+byeSize || !slices.Equal(b[:cap(b)], kept) || opsText(ops) != text || second[0] != event(1, 2, 3) || second[1] != event(1, 2, 3) {
		t.Errorf("%v, %v: %v", opsText(ops), b[:cap(b)], second)
	}
}
