package tests

import (
	"math"
	"slices"
	"strconv"
	"testing"

	"loop.example/g00728/impl"
)

func someSizes() []int {
	return []int{1, 2, 3, 7, 10, 1000, 499999, 500000, impl.MaxTime - 1, impl.MaxTime}
}

func noSizes() []int { return append(noTimes(), 0) }

func noRooms() []int {
	return []int{0, -1, -2, -impl.MaxAggs, impl.MaxAggs + 1, 2 * impl.MaxAggs, 1 << 32, 1<<32 + 1, math.MaxInt, math.MinInt}
}

// anAgg is what comes of events of these values.
func anAgg(win int, key int, values ...int) impl.Agg {
	a := impl.Agg{Win: win, Key: key, Count: len(values), Min: slices.Min(values), Max: slices.Max(values)}
	for _, x := range values {
		a.Sum += x
	}
	return a
}

func aShard(mark int, aggs ...impl.Agg) impl.Shard {
	return impl.Shard{Aggs: aggs, Mark: mark, Late: 3, Over: 5}
}

// fullShard has an agg in each of the first n windows.
func fullShard(n int) impl.Shard {
	s := aShard(noMark)
	for i := range n {
		s.Aggs = append(s.Aggs, anAgg(i, 9, 1, i))
	}
	return s
}

func someAggs() []impl.Agg {
	const mt, mk, ms, mv = impl.MaxTime, impl.MaxKey, impl.MaxSum, impl.MaxValue
	return []impl.Agg{
		{Count: 1}, anAgg(0, 0, 7), anAgg(3, 4, -5, 2), anAgg(1, 65534, 1, 2, 3), anAgg(mt, mk, -mv, mv),
		{Win: mt, Key: mk, Count: ms, Sum: ms, Min: -mv, Max: mv}, {Win: mt - 1, Key: mk - 1, Count: ms - 1, Sum: -ms, Min: mv, Max: mv},
		{Count: 1, Sum: ms, Min: -mv, Max: -mv}, {Win: 1, Count: 1, Sum: -ms + 1, Min: mv - 1, Max: mv}, {Key: 1, Count: 1, Sum: 5, Min: -1},
	}
}

func noAggs() []impl.Agg {
	list := []impl.Agg{{}, {Win: 3, Key: 4}, {Count: 1, Min: 1}, {Count: 1, Min: 7, Max: 6}, {Count: 1, Max: -1},
		{Count: 2, Min: impl.MaxValue, Max: -impl.MaxValue}}
	with := func(change func(a *impl.Agg, x int), numbers ...int) {
		for _, x := range append(numbers, math.MaxInt, math.MinInt) {
			a := anAgg(3, 4, -5, 6)
			change(&a, x)
			list = append(list, a)
		}
	}
	with(func(a *impl.Agg, x int) { a.Win = x }, -1, -2, impl.MaxTime+1, impl.MaxTick)
	with(func(a *impl.Agg, x int) { a.Key = x }, -1, -2, impl.MaxKey+1, 1<<17)
	with(func(a *impl.Agg, x int) { a.Count = x }, 0, -1, -impl.MaxSum, impl.MaxSum+1)
	with(func(a *impl.Agg, x int) { a.Sum = x }, -impl.MaxSum-1, impl.MaxSum+1)
	with(func(a *impl.Agg, x int) { a.Min = x }, 7, -impl.MaxValue-1, impl.MaxValue+1)
	with(func(a *impl.Agg, x int) { a.Max = x }, -6, -impl.MaxValue-1, impl.MaxValue+1)
	// Both too great, or both too small, so that they are in order.
	with(func(a *impl.Agg, x int) { a.Min, a.Max = x, x }, -impl.MaxValue-1, impl.MaxValue+1)
	return list
}

func someShards() []impl.Shard {
	list := []impl.Shard{{}, {Mark: noMark}, {Aggs: []impl.Agg{}, Mark: impl.MaxTime, Late: impl.MaxSum, Over: impl.MaxSum}, {Mark: 12, Late: 1},
		aShard(19, anAgg(0, 7, 1), anAgg(1, 2, 3), anAgg(1, 4, -5, 2), anAgg(2, 0, 9)),
		aShard(noMark, anAgg(5, 1, 1), anAgg(5, 2, 1), anAgg(5, 3, 1)), aShard(impl.MaxTime, anAgg(0, 0, 4), anAgg(impl.MaxTime, impl.MaxKey, 4)),
		fullShard(1), fullShard(impl.MaxAggs - 1), fullShard(impl.MaxAggs)}
	for _, a := range someAggs() {
		list = append(list, aShard(5, a))
	}
	return list
}

func noShards() []impl.Shard {
	one, two := anAgg(1, 4, -5, 2), anAgg(2, 3, 7)
	list := []impl.Shard{
		aShard(5, two, one), aShard(5, one, one), aShard(5, one, anAgg(1, 4, 9)), aShard(5, one, anAgg(1, 3, 9)), aShard(5, one, two, one),
		aShard(5, one, two, two), aShard(5, anAgg(1, 9, 1), anAgg(0, 10, 1)), aShard(5, one, two, anAgg(2, 2, 1)),
		fullShard(impl.MaxAggs + 1), fullShard(3 * impl.MaxAggs), aShard(5, slices.Repeat([]impl.Agg{one}, impl.MaxAggs)...),
	}
	for _, a := range noAggs() {
		list = append(list, aShard(5, a), aShard(noMark, a, anAgg(impl.MaxTime, 9, 1)), aShard(impl.MaxTime, anAgg(0, 1, 1), a))
	}
	for _, x := range noMarks() {
		list = append(list, aShard(x), aShard(x, one, two))
	}
	for _, x := range []int{-1, -impl.MaxSum, impl.MaxSum + 1, math.MaxInt, math.MinInt} {
		list = append(list, impl.Shard{Late: x}, impl.Shard{Over: x}, impl.Shard{Aggs: []impl.Agg{one, two}, Mark: 5, Late: x},
			impl.Shard{Aggs: []impl.Agg{one, two}, Mark: 5, Over: x})
	}
	return list
}

func sameShard(a impl.Shard, b impl.Shard) bool {
	return slices.Equal(a.Aggs, b.Aggs) && a.Mark == b.Mark && a.Late == b.Late && a.Over == b.Over
}

// lent has room behind its aggs, so that writing there is found, too.
func lent(s impl.Shard) impl.Shard {
	s.Aggs = append(make([]impl.Agg, 0, len(s.Aggs)+3), s.Aggs...)
	return s
}

// checkKept finds what was written into a lent shard, and what of the answer lies in its memory.
func checkKept(t *testing.T, given impl.Shard, was impl.Shard, answer []impl.Agg) {
	t.Helper()
	all := given.Aggs[:cap(given.Aggs)]
	kept := slices.Concat(was.Aggs, make([]impl.Agg, cap(given.Aggs)-len(given.Aggs)))
	if !slices.Equal(all, kept) {
		t.Fatalf("%v was written into: %v", kept, all)
	}
	said := slices.Clone(answer)
	for i := range all {
		all[i].Sum += 1234
	}
	if !slices.Equal(answer, said) {
		t.Fatalf("the answer %v for %v shares memory with it", said, was)
	}
}

func checkAdd(t *testing.T, s impl.Shard, size int, room int, f impl.Frame, want impl.Shard, wantCode int) {
	t.Helper()
	given := lent(s)
	got, code := impl.AddEvent(given, size, room, f)
	if code != wantCode || !sameShard(got, want) {
		t.Errorf("AddEvent(%v, %d, %d, %v) = %v, %d, want %v, %d", s, size, room, f, got, code, want, wantCode)
	}
	checkKept(t, given, s, got.Aggs)
}

func checkRaise(t *testing.T, s impl.Shard, mark int, wantMark int, wantOk bool) {
	t.Helper()
	given := lent(s)
	want := s
	want.Mark = wantMark
	got, ok := impl.RaiseMark(given, mark)
	if ok != wantOk || !sameShard(got, want) {
		t.Errorf("RaiseMark(%v, %d) = %v, %t, want %v, %t", s, mark, got, ok, want, wantOk)
	}
	checkKept(t, given, s, got.Aggs)
}

func checkClosed(t *testing.T, s impl.Shard, size int, want []impl.Agg) {
	t.Helper()
	given := lent(s)
	got := impl.ClosedOf(given, size)
	if !slices.Equal(got, want) {
		t.Errorf("ClosedOf(%v, %d) = %v, want %v", s, size, got, want)
	}
	checkKept(t, given, s, got)
}

func checkTake(t *testing.T, s impl.Shard, size int, all bool, want impl.Shard, wantAgg impl.Agg, wantOk bool) {
	t.Helper()
	given := lent(s)
	got, a, ok := impl.TakeClosed(given, size, all)
	if ok != wantOk || a != wantAgg || !sameShard(got, want) {
		t.Errorf("TakeClosed(%v, %d, %t) = %v, %v, %t, want %v, %v, %t", s, size, all, got, a, ok, want, wantAgg, wantOk)
	}
	checkKept(t, given, s, got.Aggs)
}

func TestWindowLimits(t *testing.T) {
	if impl.MaxSum != 1000000000 || impl.MaxAggs != 40 {
		t.Error("limits")
	}
	if impl.AddDone != 0 || impl.AddLate != 1 || impl.AddOver != 2 || impl.AddBad != 3 {
		t.Error("codes")
	}
}

func TestAggOk(t *testing.T) {
	for _, a := range someAggs() {
		if !impl.AggOk(a) {
			t.Errorf("AggOk(%v) is false", a)
		}
	}
	for _, a := range noAggs() {
		if impl.AggOk(a) {
			t.Errorf("AggOk(%v) is true", a)
		}
	}
}

func TestWindowOfAndWindowEnd(t *testing.T) {
	const last = impl.MaxTime
	for _, c := range []struct{ time, size, win, end int }{
		{0, 10, 0, 9}, {9, 10, 0, 9}, {10, 10, 1, 19}, {19, 10, 1, 19}, {20, 10, 2, 29}, {12, 5, 2, 14}, {7, 7, 1, 13}, {6, 7, 0, 6},
		{0, 1, 0, 0}, {1, 1, 1, 1}, {last, 1, last, last}, {last - 1, 1, last - 1, last - 1},
		{0, last, 0, last - 1}, {last - 1, last, 0, last - 1}, {last, last, 1, 2*last - 1},
		{last, 10, 100000, last + 9}, {last - 1, 10, 99999, last - 1}, {last, 7, 142857, last + 5}, {last, last - 1, 1, 2*last - 3},
	} {
		if win := impl.WindowOf(c.time, c.size); win != c.win {
			t.Errorf("WindowOf(%d, %d) = %d, want %d", c.time, c.size, win, c.win)
		}
		if end := impl.WindowEnd(c.win, c.size); end != c.end {
			t.Errorf("WindowEnd(%d, %d) = %d, want %d", c.win, c.size, end, c.end)
		}
	}
	if end := impl.WindowEnd(last, last); end != 1000000999999 {
		t.Errorf("the end of the last window of the greatest size: %d", end)
	}
}

// The end of a window is the last time in it: the time behind it lies in the next one.
func TestWindowsLieSideBySide(t *testing.T) {
	for _, size := range someSizes() {
		for _, time := range someTimes() {
			win := impl.WindowOf(time, size)
			end := impl.WindowEnd(win, size)
			if time > end || time <= end-size {
				t.Errorf("the window %d of size %d ends at %d, and has %d", win, size, end, time)
			}
			if end <= impl.MaxTime && impl.WindowOf(end, size) != win || end < impl.MaxTime && impl.WindowOf(end+1, size) != win+1 {
				t.Errorf("around the end %d of the window %d of size %d", end, win, size)
			}
		}
	}
}

func TestWindowsRefuse(t *testing.T) {
	refused := func(x int, size int) {
		t.Helper()
		if win := impl.WindowOf(x, size); win != -1 {
			t.Errorf("WindowOf(%d, %d) = %d", x, size, win)
		}
		if end := impl.WindowEnd(x, size); end != -1 {
			t.Errorf("WindowEnd(%d, %d) = %d", x, size, end)
		}
	}
	for _, x := range noTimes() {
		for _, size := range slices.Concat(someSizes(), noSizes()) {
			refused(x, size)
		}
	}
	for _, size := range noSizes() {
		for _, time := range someTimes() {
			refused(time, size)
		}
	}
}

func TestShardOk(t *testing.T) {
	for _, s := range someShards() {
		if !impl.ShardOk(s) {
			t.Errorf("ShardOk(%v) is false", s)
		}
	}
	for _, s := range noShards() {
		if impl.ShardOk(s) {
			t.Errorf("ShardOk(%v) is true", s)
		}
	}
}

func TestNewShard(t *testing.T) {
	if s := impl.NewShard(); !sameShard(s, impl.Shard{Mark: -1}) || !impl.ShardOk(s) {
		t.Errorf("NewShard() = %v", s)
	}
}

func TestAddEvent(t *testing.T) {
	three := []impl.Agg{anAgg(0, 7, 1), anAgg(1, 2, 3), anAgg(1, 5, 4)}
	s := aShard(noMark, three...)
	for _, c := range []struct {
		f     impl.Frame
		place int
		agg   impl.Agg
		fresh bool
	}{
		// One that is there counts on, with its sum and both its bounds.
		{event(7, 5, 9), 0, anAgg(0, 7, 1, 9), false}, {event(7, 0, -9), 0, anAgg(0, 7, 1, -9), false}, {event(7, 9, 1), 0, anAgg(0, 7, 1, 1), false},
		{event(2, 10, 2), 1, anAgg(1, 2, 3, 2), false}, {event(2, 19, 0), 1, anAgg(1, 2, 3, 0), false}, {event(5, 15, impl.MaxValue), 2, anAgg(1, 5, 4, impl.MaxValue), false},
		// A new one stands at its place, by window and then key.
		{event(6, 9, 8), 0, anAgg(0, 6, 8), true}, {event(0, 0, -8), 0, anAgg(0, 0, -8), true}, {event(8, 9, 8), 1, anAgg(0, 8, 8), true},
		{event(impl.MaxKey, 0, 8), 1, anAgg(0, impl.MaxKey, 8), true}, {event(1, 10, 0), 1, anAgg(1, 1, 0), true}, {event(3, 12, 8), 2, anAgg(1, 3, 8), true},
		{event(7, 10, 8), 3, anAgg(1, 7, 8), true}, {event(0, 20, 8), 3, anAgg(2, 0, 8), true}, {event(2, impl.MaxTime, -impl.MaxValue), 3, anAgg(100000, 2, -impl.MaxValue), true},
	} {
		want := aShard(noMark)
		if c.fresh {
			want.Aggs = slices.Insert(slices.Clone(three), c.place, c.agg)
		} else {
			want.Aggs = slices.Clone(three)
			want.Aggs[c.place] = c.agg
		}
		checkAdd(t, s, 10, 20, c.f, want, impl.AddDone)
	}
	checkAdd(t, impl.NewShard(), 10, 1, event(4, 12, 5), impl.Shard{Aggs: []impl.Agg{{Win: 1, Key: 4, Count: 1, Sum: 5, Min: 5, Max: 5}}, Mark: -1}, impl.AddDone)
}

// The first time and the last one, in windows of the least size and of the greatest.
func TestAddEventAtTheEndsOfTime(t *testing.T) {
	const last = impl.MaxTime
	for _, c := range []struct{ size, time, win int }{
		{1, 0, 0}, {1, 1, 1}, {1, last, last}, {last, 0, 0}, {last, last - 1, 0}, {last, last, 1}, {last - 1, last, 1}, {7, last, 142857},
	} {
		want := aShard(noMark, anAgg(c.win, 6, 2))
		checkAdd(t, aShard(noMark), c.size, 1, event(6, c.time, 2), want, impl.AddDone)
		want.Aggs[0] = anAgg(c.win, 6, 2, 3)
		checkAdd(t, aShard(noMark, anAgg(c.win, 6, 2)), c.size, 1, event(6, c.time, 3), want, impl.AddDone)
	}
}

// An event is late once the end of its window is the mark: not because of its own time.
func TestAddEventAtTheMark(t *testing.T) {
	const last = impl.MaxTime
	for _, c := range []struct {
		mark, size, time int
		late             bool
	}{
		{9, 10, 9, true}, {9, 10, 0, true}, {9, 10, 10, false}, {8, 10, 9, false}, {8, 10, 0, false}, {8, 10, 8, false}, {10, 10, 9, true}, {10, 10, 10, false},
		{18, 10, 10, false}, {18, 10, 9, true}, {19, 10, 19, true}, {19, 10, 10, true}, {19, 10, 20, false}, {20, 10, 20, false}, {28, 10, 20, false},
		{noMark, 1, 0, false}, {0, 1, 0, true}, {0, 1, 1, false}, {noMark, last, 0, false}, {last - 2, last, 0, false}, {last - 1, last, 0, true},
		{last - 1, last, last - 1, true}, {last - 1, last, last, false}, {last, last, last, false}, {last, last, last - 1, true},
		{last, 1, last, true}, {last - 1, 1, last, false}, {last, 7, last, false}, {last, 7, 999998, true}, {last, 7, 999999, false}, {last, 10, last, false}, {last, 10, last - 1, true},
	} {
		s := aShard(c.mark, anAgg(last, 0, 9))
		f := event(6, c.time, 2)
		if c.late {
			want := s
			want.Late++
			checkAdd(t, s, c.size, impl.MaxAggs, f, want, impl.AddLate)
			continue
		}
		want := aShard(c.mark, anAgg(c.time/c.size, 6, 2), anAgg(last, 0, 9))
		if c.time/c.size == last {
			slices.Reverse(want.Aggs)
		}
		checkAdd(t, s, c.size, impl.MaxAggs, f, want, impl.AddDone)
	}
}

func TestAddEventThatIsLateAndMore(t *testing.T) {
	// Its agg stands there still, but it is closed.
	closed := aShard(9, anAgg(0, 7, 1), anAgg(1, 7, 1))
	want := closed
	want.Late++
	checkAdd(t, closed, 10, 20, event(7, 5, 100), want, impl.AddLate)
	// There is no room for it either: it is late, and not over.
	checkAdd(t, closed, 10, 2, event(6, 5, 100), want, impl.AddLate)
	checkAdd(t, closed, 10, 1, event(7, 9, 100), want, impl.AddLate)
	full := fullShard(impl.MaxAggs)
	full.Mark = impl.MaxTime
	want = full
	want.Late++
	checkAdd(t, full, 10, impl.MaxAggs, event(1, 0, 1), want, impl.AddLate)
}

func TestAddEventWithoutRoom(t *testing.T) {
	for _, n := range []int{1, 2, 3, 20, impl.MaxAggs - 1, impl.MaxAggs} {
		s := fullShard(n)
		over := s
		over.Over++
		// Shards may have more than the room that is told.
		for _, room := range []int{1, max(1, n-1), n} {
			checkAdd(t, s, 10, room, event(8, 0, 4), over, impl.AddOver)
			checkAdd(t, s, 10, room, event(10, n*10-1, 4), over, impl.AddOver)
			checkAdd(t, s, 10, room, event(9, n*10, 4), over, impl.AddOver)
			checkAdd(t, s, 10, room, event(9, impl.MaxTime, 4), over, impl.AddOver)
			for _, win := range []int{0, n / 2, n - 1} {
				want := lent(s)
				want.Aggs[win] = anAgg(win, 9, 1, win, 4)
				checkAdd(t, s, 10, room, event(9, win*10+3, 4), want, impl.AddDone)
			}
		}
		if n == impl.MaxAggs {
			continue
		}
		for _, room := range []int{n + 1, impl.MaxAggs} {
			want := lent(s)
			want.Aggs = append(want.Aggs, anAgg(n, 9, 4))
			checkAdd(t, s, 10, room, event(9, n*10, 4), want, impl.AddDone)
		}
	}
}

func TestAddEventHoldsItsNumbers(t *testing.T) {
	const top = impl.MaxSum
	for _, c := range []struct{ count, sum, value, newCount, newSum int }{
		{7, top - 5, 4, 8, top - 1}, {7, top - 5, 5, 8, top}, {7, top - 5, 6, 8, top}, {7, top, 1, 8, top}, {7, top, 0, 8, top}, {7, top, -3, 8, top - 3},
		{7, -top + 5, -4, 8, -top + 1}, {7, -top + 5, -5, 8, -top}, {7, -top + 5, -6, 8, -top}, {7, -top, -1, 8, -top}, {7, -top, 0, 8, -top}, {7, -top, 3, 8, -top + 3},
		{top - 2, 0, 1, top - 1, 1}, {top - 1, 0, 1, top, 1}, {top, 0, 1, top, 1}, {top, top, 5, top, top}, {top, -top, -5, top, -top}, {top, top, -5, top, top - 5},
	} {
		s := aShard(noMark, impl.Agg{Win: 1, Key: 4, Count: c.count, Sum: c.sum, Min: -6, Max: 6})
		want := aShard(noMark, impl.Agg{Win: 1, Key: 4, Count: c.newCount, Sum: c.newSum, Min: -6, Max: 6})
		checkAdd(t, s, 10, 1, event(4, 12, c.value), want, impl.AddDone)
	}
	for _, x := range []int{0, 1, top - 2, top - 1, top} {
		s := impl.Shard{Aggs: []impl.Agg{anAgg(1, 4, 1)}, Mark: 9, Late: x, Over: 6}
		want := s
		want.Late = min(x+1, top)
		checkAdd(t, s, 10, 1, event(4, 9, 1), want, impl.AddLate)
		s = impl.Shard{Aggs: []impl.Agg{anAgg(1, 4, 1)}, Mark: 9, Late: 6, Over: x}
		want = s
		want.Over = min(x+1, top)
		checkAdd(t, s, 10, 1, event(5, 12, 1), want, impl.AddOver)
	}
}

// A thousand of the greatest values are just the greatest sum.
func TestSumsReachTheirBounds(t *testing.T) {
	for _, value := range []int{impl.MaxValue, -impl.MaxValue} {
		s := impl.NewShard()
		for i := range 1003 {
			next, code := impl.AddEvent(s, 10, 1, event(4, 12, value))
			want := impl.Agg{Win: 1, Key: 4, Count: i + 1, Sum: value * min(i+1, 1000), Min: value, Max: value}
			if code != impl.AddDone || len(next.Aggs) != 1 || next.Aggs[0] != want {
				t.Fatalf("behind %d times %d: %v, %d", i+1, value, next, code)
			}
			s = next
		}
	}
}

func TestAddEventRefuses(t *testing.T) {
	refused := func(s impl.Shard, size int, room int, f impl.Frame) {
		t.Helper()
		checkAdd(t, s, size, room, f, s, impl.AddBad)
	}
	for _, s := range noShards() {
		refused(s, 10, 20, event(4, 12, 5))
		refused(s, 10, 1, event(4, 500, 5))
		refused(s, 1, impl.MaxAggs, event(4, 0, 5))
	}
	// The first is open, in the second the event is late, and in the third there is no room for it.
	shards := []impl.Shard{impl.NewShard(), aShard(impl.MaxTime, anAgg(1, 4, 1)), fullShard(impl.MaxAggs)}
	frames := append(noFrames(), mark(12), mark(0), bye())
	for _, s := range shards {
		for _, size := range noSizes() {
			refused(s, size, 20, event(4, 12, 5))
			refused(s, size, 20, event(4, 0, 5))
		}
		for _, room := range noRooms() {
			refused(s, 10, room, event(4, 12, 5))
			refused(s, 10, room, event(9, 12, 5))
		}
		for _, f := range frames {
			refused(s, 10, 20, f)
			refused(s, 0, 0, f)
		}
	}
}

func TestRaiseMark(t *testing.T) {
	for _, s := range someShards() {
		for _, mark := range slices.Concat(someMarks(), []int{s.Mark}) {
			checkRaise(t, s, mark, max(mark, s.Mark), mark > s.Mark)
		}
		for _, mark := range noMarks() {
			checkRaise(t, s, mark, s.Mark, false)
		}
	}
	for _, s := range noShards() {
		for _, mark := range []int{noMark, 0, 6, impl.MaxTime, -2, impl.MaxTime + 1} {
			checkRaise(t, s, mark, s.Mark, false)
		}
	}
}

func TestClosedOf(t *testing.T) {
	const last = impl.MaxTime
	aggs := []impl.Agg{anAgg(0, 7, 1), anAgg(0, 8, 2), anAgg(1, 2, 3), anAgg(3, 0, 4), anAgg(3, 1, 5)}
	for _, c := range []struct{ mark, size, closed int }{
		{noMark, 10, 0}, {0, 10, 0}, {8, 10, 0}, {9, 10, 2}, {10, 10, 2}, {18, 10, 2}, {19, 10, 3}, {20, 10, 3}, {29, 10, 3}, {38, 10, 3}, {39, 10, 5}, {40, 10, 5}, {last, 10, 5},
		{noMark, 1, 0}, {0, 1, 2}, {1, 1, 3}, {2, 1, 3}, {3, 1, 5}, {last, 1, 5},
		{last - 2, last, 0}, {last - 1, last, 2}, {last, last, 2}, {last, last / 2, 3}, {last - 1, last / 2, 3}, {last - 2, last / 2, 2}, {last, last / 4, 5}, {last - 2, last / 4, 3},
	} {
		checkClosed(t, aShard(c.mark, aggs...), c.size, aggs[:c.closed])
	}
	checkClosed(t, impl.NewShard(), 10, nil)
	checkClosed(t, aShard(last), 1, nil)
	checkClosed(t, aShard(last, anAgg(last, 4, 1)), 1, []impl.Agg{anAgg(last, 4, 1)})
	checkClosed(t, aShard(last-1, anAgg(last, 4, 1)), 1, nil)
	checkClosed(t, aShard(last, anAgg(last, 4, 1)), last, nil)
	full := fullShard(impl.MaxAggs)
	for n := range impl.MaxAggs + 1 {
		full.Mark = n*10 - 1
		checkClosed(t, full, 10, full.Aggs[:n])
	}
}

func TestTakeClosed(t *testing.T) {
	for _, s := range someShards() {
		for _, size := range someSizes() {
			closed := 0
			for closed < len(s.Aggs) && (s.Aggs[closed].Win+1)*size-1 <= s.Mark {
				closed++
			}
			checkClosed(t, s, size, s.Aggs[:closed])
			for _, all := range []bool{false, true} {
				if closed == 0 && !all || len(s.Aggs) == 0 {
					checkTake(t, s, size, all, s, impl.Agg{}, false)
					continue
				}
				want := s
				want.Aggs = s.Aggs[1:]
				checkTake(t, s, size, all, want, s.Aggs[0], true)
			}
		}
	}
}

func TestTakeClosedAtTheMark(t *testing.T) {
	first, second, third := anAgg(0, 7, 1), anAgg(0, 8, 2), anAgg(1, 2, 3)
	// The window whose end is the mark is closed, the one behind it is not.
	checkTake(t, aShard(9, first, second, third), 10, false, aShard(9, second, third), first, true)
	checkTake(t, aShard(9, second, third), 10, false, aShard(9, third), second, true)
	checkTake(t, aShard(9, third), 10, false, aShard(9, third), impl.Agg{}, false)
	checkTake(t, aShard(18, third), 10, false, aShard(18, third), impl.Agg{}, false)
	checkTake(t, aShard(19, third), 10, false, aShard(19), third, true)
	checkTake(t, aShard(8, first, second, third), 10, false, aShard(8, first, second, third), impl.Agg{}, false)
	// All of them, whatever the mark is.
	for _, mark := range []int{noMark, 8, 9, 19, impl.MaxTime} {
		checkTake(t, aShard(mark, first, second, third), 10, true, aShard(mark, second, third), first, true)
		checkTake(t, aShard(mark, third), 10, true, aShard(mark), third, true)
		checkTake(t, aShard(mark), 10, true, aShard(mark), impl.Agg{}, false)
		checkTake(t, aShard(mark), 10, false, aShard(mark), impl.Agg{}, false)
	}
}

func TestClosingRefuses(t *testing.T) {
	for _, s := range noShards() {
		for _, size := range []int{1, 10, impl.MaxTime, 0} {
			checkClosed(t, s, size, nil)
			checkTake(t, s, size, false, s, impl.Agg{}, false)
			checkTake(t, s, size, true, s, impl.Agg{}, false)
		}
	}
	for _, s := range someShards() {
		for _, size := range noSizes() {
			checkClosed(t, s, size, nil)
			checkTake(t, s, size, false, s, impl.Agg{}, false)
			checkTake(t, s, size, true, s, impl.Agg{}, false)
		}
	}
}

func checkMerge(t *testing.T, a impl.Agg, b impl.Agg, want impl.Agg, wantOk bool) {
	t.Helper()
	for range 2 {
		if got, ok := impl.MergeAggs(a, b); ok != wantOk || got != want {
			t.Errorf("MergeAggs(%v, %v) = %v, %t, want %v, %t", a, b, got, ok, want, wantOk)
		}
		// Which of them is ahead says nothing.
		a, b = b, a
	}
}

func TestMergeAggs(t *testing.T) {
	const top = impl.MaxSum
	checkMerge(t, anAgg(1, 4, 5, -7), anAgg(1, 4, 9), anAgg(1, 4, 5, -7, 9), true)
	checkMerge(t, anAgg(1, 4, 5, -7), anAgg(1, 4, -9, 1), anAgg(1, 4, 5, -7, -9, 1), true)
	checkMerge(t, anAgg(1, 4, 5, -7), anAgg(1, 4, 0), anAgg(1, 4, 5, -7, 0), true)
	checkMerge(t, anAgg(0, 0, 3), anAgg(0, 0, 3), anAgg(0, 0, 3, 3), true)
	checkMerge(t, anAgg(impl.MaxTime, impl.MaxKey, 3), anAgg(impl.MaxTime, impl.MaxKey, -3), anAgg(impl.MaxTime, impl.MaxKey, 3, -3), true)
	of := func(count int, sum int) impl.Agg {
		return impl.Agg{Win: 1, Key: 4, Count: count, Sum: sum, Min: -1, Max: 1}
	}
	for _, c := range []struct{ count, sum, count2, sum2, newCount, newSum int }{
		{1, top - 5, 2, 5, 3, top}, {1, top - 5, 2, 4, 3, top - 1}, {1, top - 5, 2, 6, 3, top}, {1, top, 2, top, 3, top}, {1, top, 2, -top, 3, 0},
		{1, -top + 5, 2, -5, 3, -top}, {1, -top + 5, 2, -4, 3, -top + 1}, {1, -top + 5, 2, -6, 3, -top}, {1, -top, 2, -top, 3, -top},
		{top - 5, 0, 4, 0, top - 1, 0}, {top - 5, 0, 5, 0, top, 0}, {top - 5, 0, 6, 0, top, 0}, {top, 0, 1, 0, top, 0}, {top, top, top, top, top, top}, {top, -top, top, 7, top, -top + 7},
	} {
		checkMerge(t, of(c.count, c.sum), of(c.count2, c.sum2), of(c.newCount, c.newSum), true)
	}
}

func TestMergeAggsRefuses(t *testing.T) {
	a := anAgg(3, 4, -5, 6)
	for _, b := range []impl.Agg{anAgg(2, 4, 1), anAgg(4, 4, 1), anAgg(3, 3, 1), anAgg(3, 5, 1), anAgg(4, 3, 1), anAgg(0, 0, 1), anAgg(impl.MaxTime, impl.MaxKey, 1)} {
		checkMerge(t, a, b, impl.Agg{}, false)
	}
	for _, b := range noAggs() {
		checkMerge(t, a, b, impl.Agg{}, false)
		checkMerge(t, b, b, impl.Agg{}, false)
		// The same window and key, but out of its bounds.
		same := a
		same.Win, same.Key = b.Win, b.Key
		checkMerge(t, same, b, impl.Agg{}, false)
	}
}

// Aggs of the parts of some events, merged, are the agg of all of them.
func TestMergedPartsAreTheWhole(t *testing.T) {
	values := []int{5, -7, 0, 5, 12, -100, 99, 3}
	for cut := 1; cut < len(values); cut++ {
		checkMerge(t, anAgg(2, 6, values[:cut]...), anAgg(2, 6, values[cut:]...), anAgg(2, 6, values...), true)
	}
}

func TestAggText(t *testing.T) {
	for _, c := range []struct {
		a    impl.Agg
		want string
	}{
		{anAgg(1, 4, 5, -7), "1/4:2 -2 -7 5"}, {impl.Agg{Count: 1}, "0/0:1 0 0 0"}, {anAgg(0, 7, 12), "0/7:1 12 12 12"}, {anAgg(10, 20, -3), "10/20:1 -3 -3 -3"},
		{impl.Agg{Win: impl.MaxTime, Key: impl.MaxKey, Count: impl.MaxSum, Sum: impl.MaxSum, Min: -impl.MaxValue, Max: impl.MaxValue}, "1000000/65535:1000000000 1000000000 -1000000 1000000"},
		{impl.Agg{Win: 7, Key: 8, Count: 9, Sum: -impl.MaxSum, Min: -2, Max: -1}, "7/8:9 -1000000000 -2 -1"},
	} {
		if got := impl.AggText(c.a); got != c.want {
			t.Errorf("AggText(%v) = %q, want %q", c.a, got, c.want)
		}
	}
	for _, a := range someAggs() {
		want := strconv.Itoa(a.Win) + "/" + strconv.Itoa(a.Key) + ":" + strconv.Itoa(a.Count)
		for _, x := range []int{a.Sum, a.Min, a.Max} {
			want += " " + strconv.Itoa(x)
		}
		if got := impl.AggText(a); got != want {
			t.Errorf("AggText(%v) = %q, want %q", a, got, want)
		}
	}
	for _, a := range noAggs() {
		if got := impl.AggText(a); got != "" {
			t.Errorf("AggText(%v) = %q", a, got)
		}
	}
}

// addPlainly says again what AddEvent does, without a care for how long it takes.
func addPlainly(s impl.Shard, size int, room int, f impl.Frame) (impl.Shard, int) {
	s.Aggs = slices.Clone(s.Aggs)
	win := f.Time / size
	if win*size+size-1 <= s.Mark {
		s.Late++
		return s, impl.AddLate
	}
	for i, a := range s.Aggs {
		if a.Win == win && a.Key == f.Key {
			s.Aggs[i] = impl.Agg{Win: win, Key: f.Key, Count: a.Count + 1, Sum: a.Sum + f.Value, Min: min(a.Min, f.Value), Max: max(a.Max, f.Value)}
			return s, impl.AddDone
		}
	}
	if len(s.Aggs) >= room {
		s.Over++
		return s, impl.AddOver
	}
	s.Aggs = append(s.Aggs, anAgg(win, f.Key, f.Value))
	slices.SortFunc(s.Aggs, func(a impl.Agg, b impl.Agg) int {
		if a.Win != b.Win {
			return a.Win - b.Win
		}
		return a.Key - b.Key
	})
	return s, impl.AddDone
}

func countOf(s impl.Shard, out []impl.Agg) int {
	n := s.Late + s.Over
	for _, a := range slices.Concat(s.Aggs, out) {
		n += a.Count
	}
	return n
}

// Whatever comes, an event counts in just one of aggs, late and over; what is closed comes out
// once, by window and then key, and not ahead of its end.
func TestEventsCountOnce(t *testing.T) {
	for seed := range 100 {
		next := stir(seed)
		size, room := 1+next(12), 1+next(9)
		s := impl.NewShard()
		var out []impl.Agg
		added := 0
		codes := [4]int{}
		for range 300 {
			switch next(8) {
			case 0:
				s, _ = impl.RaiseMark(s, s.Mark+next(9)-1)
			case 1:
				was := len(s.Aggs)
				left, a, ok := impl.TakeClosed(s, size, false)
				if ok && (impl.WindowEnd(a.Win, size) > left.Mark || len(left.Aggs) != was-1) || !ok && len(impl.ClosedOf(s, size)) > 0 {
					t.Fatalf("seed %d: TakeClosed(%v) = %v, %v, %t", seed, s, left, a, ok)
				}
				if ok {
					out = append(out, a)
				}
				s = left
			default:
				f := event(next(5), max(0, s.Mark+next(40)-12), next(50)-25)
				want, wantCode := addPlainly(s, size, room, f)
				got, code := impl.AddEvent(s, size, room, f)
				if code != wantCode || !sameShard(got, want) || !impl.ShardOk(got) {
					t.Fatalf("seed %d: AddEvent(%v, %d, %d, %v) = %v, %d, want %v, %d", seed, s, size, room, f, got, code, want, wantCode)
				}
				s = got
				added++
				codes[code]++
			}
			if countOf(s, out) != added || codes[impl.AddLate] != s.Late || codes[impl.AddOver] != s.Over {
				t.Fatalf("seed %d: %d events were added, and %d count: %v, %v", seed, added, countOf(s, out), s, out)
			}
		}
		checkRising(t, out)
		if codes[impl.AddDone] == 0 || codes[impl.AddLate] == 0 || len(out) == 0 {
			t.Errorf("seed %d: too little came: %v, %v", seed, codes, out)
		}
	}
}

func checkRising(t *testing.T, out []impl.Agg) {
	t.Helper()
	for i := 1; i < len(out); i++ {
		a, b := out[i-1], out[i]
		if a.Win > b.Win || a.Win == b.Win && a.Key >= b.Key {
			t.Fatalf("%v came out ahead of %v", a, b)
		}
	}
}

// As the mark goes on tick by tick, each window comes out just when the mark is its end.
func TestClosedComeOutAtTheirEnd(t *testing.T) {
	for _, size := range []int{1, 2, 3, 7, 10, 90} {
		s := impl.NewShard()
		for i := range 90 {
			s, _ = impl.AddEvent(s, size, impl.MaxAggs, event((i*7)%3, (i*37)%90, i))
		}
		held := len(s.Aggs)
		var out []impl.Agg
		for mark := noMark; mark < 100; mark++ {
			s, _ = impl.RaiseMark(s, mark)
			for {
				left, a, ok := impl.TakeClosed(s, size, false)
				if !ok {
					break
				}
				if (a.Win+1)*size-1 != mark {
					t.Fatalf("size %d: %v came out at %d", size, a, mark)
				}
				out = append(out, a)
				s = left
			}
		}
		if len(out) != held || len(s.Aggs) != 0 || countOf(s, out) != 90 {
			t.Errorf("size %d: of %d aggs %d came out", size, held, len(out))
		}
		checkRising(t, out)
	}
}

// In whatever order the events come, all of the shard comes out the same, by window and then key.
func TestAllComeOutInTheSameOrder(t *testing.T) {
	var events []impl.Frame
	for i := range 60 {
		events = append(events, event(i%4, (i*11)%70, i-30))
	}
	var first []impl.Agg
	for turn := range len(events) {
		s := impl.NewShard()
		for i := range events {
			s, _ = impl.AddEvent(s, 10, impl.MaxAggs, events[(i*7+turn)%len(events)])
		}
		var out []impl.Agg
		for {
			left, a, ok := impl.TakeClosed(s, 10, true)
			if !ok {
				break
			}
			out = append(out, a)
			s = left
		}
		checkRising(t, out)
		if turn == 0 {
			first = out
		}
		if len(out) < 10 || countOf(s, out) != len(events) || !slices.Equal(out, first) {
			t.Fatalf("turn %d: %v, want %v", turn, out, first)
		}
	}
}
