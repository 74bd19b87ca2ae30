package tests

import (
	"fmt"
	"math"
	"slices"
	"strings"
	"testing"

	"loop.example/g00728/impl"
)

const (
	mostPairs  = impl.MaxSide * impl.MaxSide
	mostPlayed = 2 * impl.MaxSide
)

func aPair(key int, leftTime int, left int, rightTime int, right int) impl.Pair {
	return impl.Pair{Key: key, LeftTime: leftTime, RightTime: rightTime, Left: left, Right: right}
}

// noEvents are frames that are not FrameOk, and good ones of the other kinds.
func noEvents() []impl.Frame { return append(noFrames(), mark(4), mark(0), mark(impl.MaxTime), bye()) }

// inRow are n events of one key and time, told apart by their values.
func inRow(key int, time int, n int) []impl.Frame {
	var list []impl.Frame
	for i := range n {
		list = append(list, event(key, time, i))
	}
	return list
}

func aJoin(mark int, left []impl.Frame, right []impl.Frame) impl.Join {
	return impl.Join{Left: left, Right: right, Mark: mark}
}

func someJoins() []impl.Join {
	const last = impl.MaxTime
	l, r := []impl.Frame{event(1, 5, 7), event(2, 9, 8)}, []impl.Frame{event(1, 8, 3)}
	full := inRow(3, 50, impl.MaxSide)
	list := []impl.Join{{}, impl.NewJoin(), aJoin(noMark, l, r), aJoin(4, r, l), aJoin(0, full, full), aJoin(noMark, full, nil), aJoin(noMark, nil, full)}
	for _, m := range someMarks() {
		list = append(list, aJoin(m, nil, nil), aJoin(m, l, nil), aJoin(m, nil, r), aJoin(m, []impl.Frame{event(impl.MaxKey, last, -impl.MaxValue)}, []impl.Frame{event(0, 0, impl.MaxValue)}))
	}
	return list
}

func noJoins() []impl.Join {
	l, r := []impl.Frame{event(1, 5, 7), event(2, 9, 8)}, []impl.Frame{event(1, 8, 3)}
	long := inRow(3, 50, impl.MaxSide+1)
	list := []impl.Join{aJoin(noMark, long, nil), aJoin(noMark, nil, long), aJoin(noMark, long, long), aJoin(noMark, inRow(3, 50, 3*impl.MaxSide), r)}
	for _, m := range noMarks() {
		list = append(list, aJoin(m, l, r), aJoin(m, nil, nil))
	}
	for _, f := range noEvents() {
		list = append(list, aJoin(noMark, []impl.Frame{f}, nil), aJoin(noMark, nil, []impl.Frame{f}),
			aJoin(noMark, append(slices.Clone(l), f), r), aJoin(noMark, l, append([]impl.Frame{f}, r...)))
	}
	return list
}

func sameJoin(a impl.Join, b impl.Join) bool {
	return slices.Equal(a.Left, b.Left) && slices.Equal(a.Right, b.Right) && a.Mark == b.Mark
}

// lentFrames has room behind the list, so that writing there is found, too.
func lentFrames(list []impl.Frame) []impl.Frame {
	return append(make([]impl.Frame, 0, len(list)+3), list...)
}

func lentJoin(j impl.Join) impl.Join { return aJoin(j.Mark, lentFrames(j.Left), lentFrames(j.Right)) }

func checkFramesKept(t *testing.T, given []impl.Frame, was []impl.Frame) {
	t.Helper()
	if kept := slices.Concat(was, make([]impl.Frame, cap(given)-len(given))); !slices.Equal(given[:cap(given)], kept) {
		t.Fatalf("%v was written into: %v", kept, given[:cap(given)])
	}
}

// checkJoinKept finds what was written into a lent join, what of the answer lies in its memory, and
// whether the sides of the answer lie in each other's.
func checkJoinKept(t *testing.T, given impl.Join, was impl.Join, answer impl.Join) {
	t.Helper()
	checkFramesKept(t, given.Left, was.Left)
	checkFramesKept(t, given.Right, was.Right)
	right := slices.Clone(answer.Right[:cap(answer.Right)])
	for i := range answer.Left[:cap(answer.Left)] {
		answer.Left[:cap(answer.Left)][i].Key = -77
	}
	if !slices.Equal(answer.Right[:cap(answer.Right)], right) {
		t.Fatalf("the sides of the answer for %v share memory", was)
	}
	for i := range answer.Right[:cap(answer.Right)] {
		answer.Right[:cap(answer.Right)][i].Key = -78
	}
	checkFramesKept(t, given.Left, was.Left)
	checkFramesKept(t, given.Right, was.Right)
}

func checkPairs(t *testing.T, what string, got []impl.Pair, want ...impl.Pair) {
	t.Helper()
	if !slices.Equal(got, want) {
		t.Fatalf("%s:\ngot  %v\nwant %v", what, got, want)
	}
}

// joinPlainly looks at each left event with each right one.
func joinPlainly(left []impl.Frame, right []impl.Frame, by int) []impl.Pair {
	var pairs []impl.Pair
	for _, l := range left {
		for _, r := range right {
			if l.Key == r.Key && max(l.Time, r.Time) <= min(l.Time, r.Time)+by {
				pairs = append(pairs, aPair(l.Key, l.Time, l.Value, r.Time, r.Value))
			}
		}
	}
	return pairs
}

// numbersOf are in the order in which pairs are compared.
func numbersOf(p impl.Pair) [5]int {
	return [5]int{p.Key, p.LeftTime, p.RightTime, p.Left, p.Right}
}

// lessPlainly goes to the first number in which the two differ.
func lessPlainly(p impl.Pair, q impl.Pair) bool {
	a, b := numbersOf(p), numbersOf(q)
	for i := range a {
		if a[i] != b[i] {
			return a[i] < b[i]
		}
	}
	return false
}

// placesOf are those of a list with n.
func placesOf(n int) []int {
	var list []int
	for i := range n {
		list = append(list, i)
	}
	return list
}

// turnedAbout has the same in another order.
func turnedAbout[T any](list []T, seed int) []T {
	next := stir(seed)
	turned := slices.Clone(list)
	for i := len(turned) - 1; i > 0; i-- {
		k := next(i + 1)
		turned[i], turned[k] = turned[k], turned[i]
	}
	return turned
}

func TestJoinLimits(t *testing.T) {
	if impl.MaxSide != 40 || impl.JoinDone != 0 || impl.JoinLate != 1 || impl.JoinFull != 2 || impl.JoinBad != 3 {
		t.Error("limits")
	}
}

func TestJoinWithin(t *testing.T) {
	const last, key, most = impl.MaxTime, impl.MaxKey, impl.MaxValue
	left := []impl.Frame{event(1, 5, 7), event(2, 9, 8)}
	right := []impl.Frame{event(1, 8, 3)}
	for _, c := range []struct {
		left, right []impl.Frame
		by          int
		want        []impl.Pair
	}{
		{nil, nil, 0, nil}, {left, nil, last, nil}, {nil, right, last, nil}, {[]impl.Frame{}, []impl.Frame{}, last, nil},
		// Exactly by apart, and one further, whichever comes first.
		{left, right, 3, []impl.Pair{aPair(1, 5, 7, 8, 3)}}, {left, right, 2, nil}, {right, left, 3, []impl.Pair{aPair(1, 8, 3, 5, 7)}}, {right, left, 2, nil}, {left, right, 4, []impl.Pair{aPair(1, 5, 7, 8, 3)}},
		// By 0 only events of one time meet.
		{[]impl.Frame{event(4, 6, -1)}, []impl.Frame{event(4, 6, -2)}, 0, []impl.Pair{aPair(4, 6, -1, 6, -2)}},
		{[]impl.Frame{event(4, 6, -1)}, []impl.Frame{event(4, 5, -2), event(4, 7, -3)}, 0, nil},
		{[]impl.Frame{event(4, 6, -1)}, []impl.Frame{event(4, 5, -2), event(4, 7, -3)}, 1, []impl.Pair{aPair(4, 6, -1, 5, -2), aPair(4, 6, -1, 7, -3)}},
		// By MaxTime all of one key meet, both ends of time too.
		{[]impl.Frame{event(key, 0, most)}, []impl.Frame{event(key, last, -most)}, last, []impl.Pair{aPair(key, 0, most, last, -most)}},
		{[]impl.Frame{event(key, last, most)}, []impl.Frame{event(key, 0, -most)}, last, []impl.Pair{aPair(key, last, most, 0, -most)}},
		{[]impl.Frame{event(key, last, most)}, []impl.Frame{event(key, 0, -most)}, last - 1, nil}, {[]impl.Frame{event(0, 0, 0)}, []impl.Frame{event(0, 0, 0)}, 0, []impl.Pair{{}}},
		// Other keys never meet.
		{[]impl.Frame{event(1, 6, 1)}, []impl.Frame{event(0, 6, 1), event(2, 6, 1), event(key, 6, 1)}, last, nil},
		// By the place of the left one, then of the right one, whatever their times, keys and values are.
		{[]impl.Frame{event(3, 9, 5), event(1, 4, 6), event(3, 2, 1)}, []impl.Frame{event(1, 7, 9), event(3, 8, 8), event(1, 1, 2), event(3, 3, 4)}, 9,
			[]impl.Pair{aPair(3, 9, 5, 8, 8), aPair(3, 9, 5, 3, 4), aPair(1, 4, 6, 7, 9), aPair(1, 4, 6, 1, 2), aPair(3, 2, 1, 8, 8), aPair(3, 2, 1, 3, 4)}},
		// The same event twice makes the same pair twice.
		{[]impl.Frame{event(1, 5, 7), event(1, 5, 7)}, []impl.Frame{event(1, 5, 3)}, 0, []impl.Pair{aPair(1, 5, 7, 5, 3), aPair(1, 5, 7, 5, 3)}},
		{[]impl.Frame{event(1, 5, 7)}, []impl.Frame{event(1, 5, 3), event(1, 5, 3)}, 0, []impl.Pair{aPair(1, 5, 7, 5, 3), aPair(1, 5, 7, 5, 3)}},
	} {
		given, others := lentFrames(c.left), lentFrames(c.right)
		got, ok := impl.JoinWithin(given, others, c.by)
		if !ok {
			t.Errorf("JoinWithin(%v, %v, %d) is false", c.left, c.right, c.by)
		}
		checkPairs(t, fmt.Sprintf("JoinWithin(%v, %v, %d)", c.left, c.right, c.by), got, c.want...)
		checkFramesKept(t, given, c.left)
		checkFramesKept(t, others, c.right)
	}
}

// Events of one time all meet, the left ones one after the other with all right ones: exactly as many as can be.
func TestJoinWithinOfFullSides(t *testing.T) {
	left, right := inRow(6, 30, impl.MaxSide), inRow(6, 30, impl.MaxSide)
	got, ok := impl.JoinWithin(left, right, 0)
	if !ok || len(got) != mostPairs {
		t.Fatalf("%d pairs, %t", len(got), ok)
	}
	for i, p := range got {
		if p != aPair(6, 30, i/impl.MaxSide, 30, i%impl.MaxSide) {
			t.Fatalf("the pair at place %d is %v", i, p)
		}
	}
	if sorted := impl.SortPairs(got); len(sorted) != mostPairs || !impl.SamePairs(got, sorted) {
		t.Error("the pairs of full sides can't be sorted")
	}
}

func TestJoinWithinOfManyLists(t *testing.T) {
	all, alone := 0, 0
	for seed := range 60 {
		left, right := someEvents(seed, seed%41), someEvents(seed+500, 40-seed%41)
		for _, by := range []int{0, 1, 2, 5, 20, 59, impl.MaxTime} {
			got, ok := impl.JoinWithin(left, right, by)
			want := joinPlainly(left, right, by)
			if !ok {
				t.Fatalf("by %d of %v and %v: false", by, left, right)
			}
			checkPairs(t, "within", got, want...)
			var places []int
			for place, l := range left {
				if len(joinPlainly([]impl.Frame{l}, right, by)) == 0 {
					places = append(places, place)
				}
			}
			checkPlaces(t, "unmatched", impl.Unmatched(left, right, by), places...)
			all, alone = all+len(want), alone+len(places)
		}
	}
	if all < 5000 || alone < 1000 {
		t.Errorf("%d pairs, %d alone", all, alone)
	}
}

func TestUnmatched(t *testing.T) {
	const last = impl.MaxTime
	left := []impl.Frame{event(1, 5, 7), event(2, 9, 8)}
	right := []impl.Frame{event(1, 8, 3)}
	for _, c := range []struct {
		left, right []impl.Frame
		by          int
		want        []int
	}{
		{nil, nil, 0, nil}, {nil, right, last, nil}, {left, nil, last, []int{0, 1}}, {left, right, 3, []int{1}}, {left, right, 2, []int{0, 1}}, {right, left, 3, nil}, {right, left, 2, []int{0}},
		// Those of the right side alone are not told.
		{[]impl.Frame{event(1, 8, 1)}, []impl.Frame{event(1, 8, 2), event(1, 900, 2), event(5, 8, 2)}, 0, nil},
		// One that meets many, and one that meets just the last one.
		{[]impl.Frame{event(1, 8, 1), event(9, 8, 1), event(2, 7, 1)}, []impl.Frame{event(1, 8, 2), event(1, 9, 2), event(1, 7, 2), event(2, 8, 5)}, 1, []int{1}},
		{[]impl.Frame{event(1, 8, 1), event(1, 8, 1)}, []impl.Frame{event(1, 9, 2)}, 0, []int{0, 1}},
		{[]impl.Frame{event(1, 0, 1), event(1, last, 1)}, []impl.Frame{event(1, 0, 2)}, last, nil}, {[]impl.Frame{event(1, 0, 1), event(1, last, 1)}, []impl.Frame{event(1, 0, 2)}, last - 1, []int{1}},
		{inRow(1, 8, impl.MaxSide), inRow(2, 8, impl.MaxSide), last, placesOf(impl.MaxSide)}, {inRow(1, 8, impl.MaxSide), inRow(1, 8, impl.MaxSide), 0, nil},
	} {
		given, others := lentFrames(c.left), lentFrames(c.right)
		checkPlaces(t, fmt.Sprintf("Unmatched(%v, %v, %d)", c.left, c.right, c.by), impl.Unmatched(given, others, c.by), c.want...)
		checkFramesKept(t, given, c.left)
		checkFramesKept(t, others, c.right)
	}
}

func checkNotWithin(t *testing.T, left []impl.Frame, right []impl.Frame, by int) {
	t.Helper()
	if got, ok := impl.JoinWithin(left, right, by); ok || len(got) != 0 {
		t.Errorf("JoinWithin(%v, %v, %d) = %v, %t", left, right, by, got, ok)
	}
	if got := impl.Unmatched(left, right, by); len(got) != 0 {
		t.Errorf("Unmatched(%v, %v, %d) = %v", left, right, by, got)
	}
}

func TestJoinWithinRefuses(t *testing.T) {
	left, right := []impl.Frame{event(1, 5, 7), event(2, 9, 8)}, []impl.Frame{event(1, 8, 3)}
	for _, by := range noTimes() {
		checkNotWithin(t, left, right, by)
		checkNotWithin(t, left, nil, by)
		checkNotWithin(t, nil, nil, by)
	}
	for _, f := range noEvents() {
		for _, bad := range [][]impl.Frame{{f}, {f, event(1, 6, 1)}, {event(1, 6, 1), f}, {event(1, 6, 1), f, event(1, 7, 1)}} {
			checkNotWithin(t, bad, right, 3)
			checkNotWithin(t, left, bad, 3)
			checkNotWithin(t, bad, nil, 3)
			checkNotWithin(t, nil, bad, 3)
			checkNotWithin(t, bad, bad, impl.MaxTime)
		}
	}
	for _, n := range []int{impl.MaxSide + 1, impl.MaxSide + 2, impl.MaxList, 5 * impl.MaxList} {
		long := inRow(1, 6, n)
		checkNotWithin(t, long, right, 3)
		checkNotWithin(t, left, long, 3)
		checkNotWithin(t, long, nil, 3)
		checkNotWithin(t, nil, long, 3)
		checkNotWithin(t, long, long, 3)
	}
}

// somePairs differ in one number each, and some are the same.
func somePairs() []impl.Pair {
	list := []impl.Pair{{}, {}, aPair(1, 5, 7, 8, 3), aPair(1, 5, 7, 8, 3)}
	for _, x := range []int{math.MinInt, -2, 0, 1, 2, 9, math.MaxInt} {
		list = append(list, impl.Pair{Key: x}, impl.Pair{LeftTime: x}, impl.Pair{RightTime: x}, impl.Pair{Left: x}, impl.Pair{Right: x},
			impl.Pair{Key: 1, LeftTime: x, RightTime: -x, Left: 4, Right: 5}, impl.Pair{Key: 1, LeftTime: 2, RightTime: x, Left: -x, Right: 3}, impl.Pair{Key: 1, LeftTime: 2, RightTime: 3, Left: x, Right: -x}, impl.Pair{Key: x, LeftTime: -x, RightTime: 2, Left: 3, Right: 4})
	}
	return list
}

func TestPairLess(t *testing.T) {
	// Each differs from the one ahead of it in one number, and all behind that number speak against it.
	rising := []impl.Pair{
		{Key: 1, LeftTime: 2, RightTime: 3, Left: 4, Right: 5}, {Key: 1, LeftTime: 2, RightTime: 3, Left: 4, Right: 6}, {Key: 1, LeftTime: 2, RightTime: 3, Left: 5, Right: 0},
		{Key: 1, LeftTime: 2, RightTime: 4, Left: 0, Right: 0}, {Key: 1, LeftTime: 3, RightTime: 0, Left: 0, Right: 0}, {Key: 2, LeftTime: 0, RightTime: 0, Left: 0, Right: 0},
	}
	for i, p := range rising {
		for k, q := range rising {
			if got := impl.PairLess(p, q); got != (i < k) {
				t.Errorf("PairLess(%v, %v) = %t", p, q, got)
			}
		}
	}
	for _, p := range somePairs() {
		for _, q := range somePairs() {
			if got := impl.PairLess(p, q); got != lessPlainly(p, q) || got && impl.PairLess(q, p) || !got && !impl.PairLess(q, p) && p != q {
				t.Errorf("PairLess(%v, %v) = %t, the other way %t", p, q, got, impl.PairLess(q, p))
			}
		}
	}
}

// checkSorted finds what was written into the list, and what of the answer lies in its memory.
func checkSorted(t *testing.T, list []impl.Pair, want ...impl.Pair) {
	t.Helper()
	given := append(make([]impl.Pair, 0, len(list)+3), list...)
	got := impl.SortPairs(given)
	checkPairs(t, fmt.Sprintf("SortPairs of %d", len(list)), got, want...)
	for i := range got[:cap(got)] {
		got[:cap(got)][i] = impl.Pair{Key: -77}
	}
	if !slices.Equal(given[:cap(given)], slices.Concat(list, make([]impl.Pair, cap(given)-len(given)))) {
		t.Errorf("%v was written into: %v", list, given[:cap(given)])
	}
}

func TestSortPairs(t *testing.T) {
	a, b, c := aPair(1, 5, 7, 8, 3), aPair(1, 6, 0, 0, 0), aPair(2, 0, 0, 0, 0)
	checkSorted(t, nil)
	checkSorted(t, []impl.Pair{})
	checkSorted(t, []impl.Pair{b}, b)
	for _, list := range [][]impl.Pair{{a, b, c}, {a, c, b}, {b, a, c}, {b, c, a}, {c, a, b}, {c, b, a}} {
		checkSorted(t, list, a, b, c)
	}
	// Those that are the same stay as many as they are.
	checkSorted(t, []impl.Pair{c, a, c, a, a}, a, a, a, c, c)
	all := somePairs()
	sorted := slices.Clone(all)
	slices.SortFunc(sorted, func(p impl.Pair, q impl.Pair) int {
		a, b := numbersOf(p), numbersOf(q)
		return slices.Compare(a[:], b[:])
	})
	for seed := range 20 {
		checkSorted(t, turnedAbout(all, seed), sorted...)
	}
}

// manyPairs are n, told apart by their numbers, the greatest first.
func manyPairs(n int) []impl.Pair {
	var list []impl.Pair
	for i := range n {
		list = append(list, aPair(3, n-i, 1, 2, 4))
	}
	return list
}

func TestSortPairsOfLongLists(t *testing.T) {
	want := manyPairs(mostPairs)
	slices.Reverse(want)
	checkSorted(t, manyPairs(mostPairs), want...)
	for _, n := range []int{mostPairs + 1, mostPairs + 2, 3 * mostPairs} {
		checkSorted(t, manyPairs(n))
	}
}

func checkSame(t *testing.T, a []impl.Pair, b []impl.Pair, want bool) {
	t.Helper()
	for range 2 {
		given, others := append(make([]impl.Pair, 0, len(a)+3), a...), append(make([]impl.Pair, 0, len(b)+3), b...)
		if got := impl.SamePairs(given, others); got != want {
			t.Errorf("SamePairs of %d and %d pairs = %t", len(a), len(b), got)
		}
		if !slices.Equal(given, a) || !slices.Equal(others, b) {
			t.Errorf("%v or %v was written into", a, b)
		}
		a, b = b, a
	}
}

func TestSamePairs(t *testing.T) {
	a, b, c := aPair(1, 5, 7, 8, 3), aPair(1, 6, 0, 0, 0), aPair(2, 0, 0, 0, 0)
	checkSame(t, nil, nil, true)
	checkSame(t, nil, []impl.Pair{}, true)
	checkSame(t, nil, []impl.Pair{a}, false)
	checkSame(t, nil, []impl.Pair{{}}, false)
	checkSame(t, []impl.Pair{a}, []impl.Pair{a}, true)
	checkSame(t, []impl.Pair{a}, []impl.Pair{b}, false)
	for _, list := range [][]impl.Pair{{a, b, c}, {a, c, b}, {b, a, c}, {b, c, a}, {c, a, b}, {c, b, a}} {
		checkSame(t, list, []impl.Pair{b, a, c}, true)
		checkSame(t, list, []impl.Pair{b, a}, false)
		checkSame(t, list, []impl.Pair{b, a, b}, false)
		checkSame(t, list, []impl.Pair{b, a, c, c}, false)
	}
	// The same pair twice is not the same as another twice, nor as once.
	checkSame(t, []impl.Pair{a, a, b}, []impl.Pair{a, b, a}, true)
	checkSame(t, []impl.Pair{a, a, b}, []impl.Pair{a, b, b}, false)
	checkSame(t, []impl.Pair{a, a, b}, []impl.Pair{a, b}, false)
	// A single number that differs is enough.
	for _, p := range []impl.Pair{aPair(2, 5, 7, 8, 3), aPair(1, 6, 7, 8, 3), aPair(1, 5, 8, 8, 3), aPair(1, 5, 7, 9, 3), aPair(1, 5, 7, 8, 4)} {
		checkSame(t, []impl.Pair{b, a, c}, []impl.Pair{p, b, c}, false)
	}
	for seed := range 20 {
		checkSame(t, somePairs(), turnedAbout(somePairs(), seed), true)
		other := turnedAbout(somePairs(), seed)
		other[seed].Right ^= 1
		checkSame(t, somePairs(), other, false)
	}
	checkSame(t, manyPairs(mostPairs), turnedAbout(manyPairs(mostPairs), 7), true)
	checkSame(t, manyPairs(mostPairs), manyPairs(mostPairs-1), false)
	checkSame(t, manyPairs(mostPairs+1), manyPairs(mostPairs+1), false)
	checkSame(t, manyPairs(mostPairs+1), manyPairs(mostPairs), false)
	// Both are nothing when sorted.
	checkSame(t, manyPairs(mostPairs+1), nil, false)
	checkSame(t, manyPairs(mostPairs+1), manyPairs(mostPairs+2), false)
}

func TestJoinOk(t *testing.T) {
	for _, j := range someJoins() {
		if !impl.JoinOk(j) || impl.HeldIn(j) != len(j.Left)+len(j.Right) {
			t.Errorf("JoinOk(%v) = %t, HeldIn %d", j, impl.JoinOk(j), impl.HeldIn(j))
		}
	}
	for _, j := range noJoins() {
		if impl.JoinOk(j) || impl.HeldIn(j) != -1 {
			t.Errorf("JoinOk(%v) = %t, HeldIn %d", j, impl.JoinOk(j), impl.HeldIn(j))
		}
	}
}

func TestNewJoin(t *testing.T) {
	if j := impl.NewJoin(); !sameJoin(j, aJoin(noMark, nil, nil)) || !impl.JoinOk(j) || impl.HeldIn(j) != 0 {
		t.Errorf("NewJoin() = %v", j)
	}
}

func TestPairText(t *testing.T) {
	for _, c := range []struct {
		p    impl.Pair
		want string
	}{
		{aPair(1, 5, 7, 8, 3), "1:5=7~8=3"}, {impl.Pair{}, "0:0=0~0=0"}, {aPair(12, 0, -7, 30, -1), "12:0=-7~30=-1"},
		{aPair(impl.MaxKey, impl.MaxTime, -impl.MaxValue, 0, impl.MaxValue), "65535:1000000=-1000000~0=1000000"},
		// Any pair has its text.
		{impl.Pair{Key: -1, LeftTime: -2, RightTime: -3, Left: -4, Right: -5}, "-1:-2=-4~-3=-5"},
		{aPair(math.MaxInt, math.MinInt, math.MaxInt, math.MinInt, 10), "9223372036854775807:-9223372036854775808=9223372036854775807~-9223372036854775808=10"},
	} {
		if got := impl.PairText(c.p); got != c.want {
			t.Errorf("PairText(%v) = %q, want %q", c.p, got, c.want)
		}
	}
}

func checkJoined(t *testing.T, j impl.Join, by int, left bool, f impl.Frame, want ...impl.Pair) impl.Join {
	t.Helper()
	given := lentJoin(j)
	got, pairs, code := impl.AddJoin(given, by, left, f)
	next := aJoin(j.Mark, slices.Clone(j.Left), slices.Clone(j.Right))
	if left {
		next.Left = append(next.Left, f)
	} else {
		next.Right = append(next.Right, f)
	}
	if code != impl.JoinDone || !sameJoin(got, next) {
		t.Fatalf("AddJoin(%v, %d, %t, %v) = %v, %d", j, by, left, f, got, code)
	}
	checkPairs(t, fmt.Sprintf("AddJoin(%v, %d, %t, %v)", j, by, left, f), pairs, want...)
	checkJoinKept(t, given, j, got)
	return next
}

func checkNotJoined(t *testing.T, j impl.Join, by int, left bool, f impl.Frame, want int) {
	t.Helper()
	given := lentJoin(j)
	got, pairs, code := impl.AddJoin(given, by, left, f)
	if code != want || !sameJoin(got, j) || len(pairs) != 0 {
		t.Fatalf("AddJoin(%v, %d, %t, %v) = %v, %v, %d, want code %d", j, by, left, f, got, pairs, code, want)
	}
	checkJoinKept(t, given, j, got)
}

func TestAddJoin(t *testing.T) {
	const last = impl.MaxTime
	j := checkJoined(t, impl.NewJoin(), 3, true, event(1, 5, 7))
	j = checkJoined(t, j, 3, false, event(1, 8, 3), aPair(1, 5, 7, 8, 3))
	j = checkJoined(t, j, 3, false, event(1, 9, 4))
	j = checkJoined(t, j, 3, false, event(2, 5, 5))
	j = checkJoined(t, j, 3, false, event(1, 2, 6), aPair(1, 5, 7, 2, 6))
	j = checkJoined(t, j, 3, false, event(1, 1, 6))
	// Events of one side do not meet, even those of one time.
	j = checkJoined(t, j, 0, true, event(1, 5, 7))
	// The pairs are those with the other side, by the places there.
	checkJoined(t, j, last, true, event(1, 6, -1), aPair(1, 6, -1, 8, 3), aPair(1, 6, -1, 9, 4), aPair(1, 6, -1, 2, 6), aPair(1, 6, -1, 1, 6))
	checkJoined(t, j, last, false, event(1, 6, -1), aPair(1, 5, 7, 6, -1), aPair(1, 5, 7, 6, -1))
	checkJoined(t, j, 0, true, event(1, 8, 9), aPair(1, 8, 9, 8, 3))
	checkJoined(t, j, 1, true, event(1, 8, 9), aPair(1, 8, 9, 8, 3), aPair(1, 8, 9, 9, 4))
	checkJoined(t, j, 0, false, event(1, 4, 9))
	checkJoined(t, j, 0, true, event(9, 5, 9))
	// By 0 and by MaxTime at both ends of time.
	ends := aJoin(noMark, []impl.Frame{event(4, 0, 1), event(4, last, 2)}, []impl.Frame{event(4, 0, 3), event(4, last, 4)})
	checkJoined(t, ends, 0, true, event(4, 0, 5), aPair(4, 0, 5, 0, 3))
	checkJoined(t, ends, 0, false, event(4, last, 5), aPair(4, last, 2, last, 5))
	checkJoined(t, ends, last-1, true, event(4, 0, 5), aPair(4, 0, 5, 0, 3))
	checkJoined(t, ends, last, true, event(4, 0, 5), aPair(4, 0, 5, 0, 3), aPair(4, 0, 5, last, 4))
	checkJoined(t, ends, last, false, event(4, last, 5), aPair(4, 0, 1, last, 5), aPair(4, last, 2, last, 5))
}

// An event whose Time is just Mark is late, one more is not; what is held may be older than both.
func TestAddJoinAtItsMark(t *testing.T) {
	const last = impl.MaxTime
	right := []impl.Frame{event(1, 3, 9), event(1, 7, 8)}
	for _, left := range []bool{true, false} {
		for _, m := range []int{0, 1, 6, last - 1} {
			j := aJoin(m, nil, nil)
			checkNotJoined(t, j, 3, left, event(1, m, 7), impl.JoinLate)
			checkNotJoined(t, j, 3, left, event(1, 0, 7), impl.JoinLate)
			checkJoined(t, j, 3, left, event(1, m+1, 7))
			checkJoined(t, j, 3, left, event(1, last, 7))
		}
		checkJoined(t, aJoin(noMark, nil, nil), 3, left, event(1, 0, 7))
		for _, time := range someTimes() {
			checkNotJoined(t, aJoin(last, nil, nil), last, left, event(1, time, 7), impl.JoinLate)
			checkNotJoined(t, aJoin(last, right, right), last, left, event(1, time, 7), impl.JoinLate)
		}
	}
	checkJoined(t, aJoin(6, nil, right), 4, true, event(1, 7, 5), aPair(1, 7, 5, 3, 9), aPair(1, 7, 5, 7, 8))
	checkNotJoined(t, aJoin(6, nil, right), 4, true, event(1, 6, 5), impl.JoinLate)
}

// Exactly MaxSide are held on a side, one more are not; the other side has its own room.
func TestAddJoinFull(t *testing.T) {
	const most = impl.MaxSide
	row, f := inRow(3, 50, most), event(3, 50, 99)
	almost := aJoin(noMark, row[:most-1], row[:most-1])
	pairsOfLeft, pairsOfRight := joinPlainly([]impl.Frame{f}, row, 0), joinPlainly(row, []impl.Frame{f}, 0)
	checkJoined(t, almost, 0, true, f, pairsOfLeft[:most-1]...)
	checkJoined(t, almost, 0, false, f, pairsOfRight[:most-1]...)
	for _, few := range []int{0, 1, most - 1} {
		left, right := aJoin(7, row, row[:few]), aJoin(7, row[:few], row)
		checkNotJoined(t, left, 0, true, f, impl.JoinFull)
		checkNotJoined(t, right, 0, false, f, impl.JoinFull)
		checkJoined(t, left, 0, false, f, pairsOfRight...)
		checkJoined(t, right, 0, true, f, pairsOfLeft...)
		// What is late is late first.
		checkNotJoined(t, left, 0, true, event(3, 7, 1), impl.JoinLate)
		checkNotJoined(t, right, 0, false, event(3, 7, 1), impl.JoinLate)
		checkNotJoined(t, left, 0, true, event(3, 8, 1), impl.JoinFull)
		checkNotJoined(t, right, 0, false, event(3, 8, 1), impl.JoinFull)
	}
	full := aJoin(7, row, row)
	for _, left := range []bool{true, false} {
		checkNotJoined(t, full, impl.MaxTime, left, f, impl.JoinFull)
		checkNotJoined(t, full, -1, left, f, impl.JoinBad)
		checkNotJoined(t, full, 5, left, mark(60), impl.JoinBad)
		checkNotJoined(t, full, 5, left, event(3, -1, 1), impl.JoinBad)
	}
}

func TestAddJoinRefuses(t *testing.T) {
	for _, left := range []bool{true, false} {
		for _, j := range noJoins() {
			// Also what would be late for its mark.
			checkNotJoined(t, j, 5, left, event(1, 6, 1), impl.JoinBad)
			checkNotJoined(t, j, 0, left, event(1, 0, 1), impl.JoinBad)
			checkNotJoined(t, j, -1, left, bye(), impl.JoinBad)
		}
		for _, j := range someJoins() {
			for _, f := range noEvents() {
				checkNotJoined(t, j, 5, left, f, impl.JoinBad)
			}
			for _, by := range noTimes() {
				checkNotJoined(t, j, by, left, event(1, 6, 1), impl.JoinBad)
				checkNotJoined(t, j, by, left, event(1, impl.MaxTime, 1), impl.JoinBad)
			}
		}
	}
}

func checkRaised(t *testing.T, j impl.Join, by int, mark int, want impl.Join, wantCount int) {
	t.Helper()
	given := lentJoin(j)
	got, count := impl.RaiseJoin(given, by, mark)
	if count != wantCount || !sameJoin(got, want) {
		t.Fatalf("RaiseJoin(%v, %d, %d) = %v, %d, want %v, %d", j, by, mark, got, count, want, wantCount)
	}
	checkJoinKept(t, given, j, got)
}

func TestRaiseJoin(t *testing.T) {
	const last = impl.MaxTime
	five, eight, ten := event(1, 5, 7), event(2, 8, 8), event(1, 10, 9)
	left, right := []impl.Frame{ten, five, eight}, []impl.Frame{eight, five, five, ten}
	j := aJoin(3, left, right)
	for _, c := range []struct {
		by, mark    int
		want        int
		left, right []impl.Frame
		count       int
	}{
		// Just in time: the event of time 5 still meets one of mark + 1 while that is at most by behind it.
		{3, 7, 7, left, right, 0}, {3, 8, 8, []impl.Frame{ten, eight}, []impl.Frame{eight, ten}, 3}, {2, 6, 6, left, right, 0}, {2, 7, 7, []impl.Frame{ten, eight}, []impl.Frame{eight, ten}, 3},
		{3, 10, 10, []impl.Frame{ten, eight}, []impl.Frame{eight, ten}, 3}, {3, 11, 11, []impl.Frame{ten}, []impl.Frame{ten}, 5}, {3, 12, 12, []impl.Frame{ten}, []impl.Frame{ten}, 5}, {3, 13, 13, nil, nil, 7},
		// By 0 what is at the mark goes, what is one behind it stays.
		{0, 4, 4, left, right, 0}, {0, 5, 5, []impl.Frame{ten, eight}, []impl.Frame{eight, ten}, 3}, {0, 9, 9, []impl.Frame{ten}, []impl.Frame{ten}, 5}, {0, 10, 10, nil, nil, 7},
		// A mark that is not greater lets Mark stay.
		{0, 3, 3, left, right, 0}, {0, 2, 3, left, right, 0}, {0, 0, 3, left, right, 0}, {0, noMark, 3, left, right, 0}, {5, noMark, 3, left, right, 0},
		// By MaxTime nothing goes, whatever the mark is.
		{last, last, last, left, right, 0}, {last - 4, last, last, left, right, 0}, {last - 5, last, last, []impl.Frame{ten, eight}, []impl.Frame{eight, ten}, 3}, {0, last, last, nil, nil, 7}, {last, noMark, 3, left, right, 0},
	} {
		checkRaised(t, j, c.by, c.mark, aJoin(c.want, c.left, c.right), c.count)
	}
}

// A mark that is not greater still drops what is in vain at the Mark that stays.
func TestRaiseJoinDropsWhereItsMarkStays(t *testing.T) {
	five, eight := event(1, 5, 7), event(2, 8, 8)
	j := aJoin(9, []impl.Frame{five, eight}, []impl.Frame{eight, five, five})
	for _, m := range []int{noMark, 0, 5, 8, 9} {
		checkRaised(t, j, 5, m, j, 0)
		checkRaised(t, j, 4, m, aJoin(9, []impl.Frame{eight}, []impl.Frame{eight}), 3)
		checkRaised(t, j, 2, m, aJoin(9, []impl.Frame{eight}, []impl.Frame{eight}), 3)
		checkRaised(t, j, 1, m, aJoin(9, nil, nil), 5)
		checkRaised(t, j, 0, m, aJoin(9, nil, nil), 5)
	}
	// One greater drops as its own mark says.
	checkRaised(t, j, 5, 10, aJoin(10, []impl.Frame{eight}, []impl.Frame{eight}), 3)
}

// At both ends of marks and of times.
func TestRaiseJoinAtTheEnds(t *testing.T) {
	const last = impl.MaxTime
	zero, end := event(1, 0, 7), event(1, last, 8)
	j := aJoin(noMark, []impl.Frame{zero, end}, []impl.Frame{end, zero})
	checkRaised(t, j, 0, noMark, j, 0)
	checkRaised(t, j, last, noMark, j, 0)
	checkRaised(t, j, 0, 0, aJoin(0, []impl.Frame{end}, []impl.Frame{end}), 2)
	checkRaised(t, j, 1, 0, aJoin(0, j.Left, j.Right), 0)
	checkRaised(t, j, last, last-1, aJoin(last-1, j.Left, j.Right), 0)
	// Behind MaxTime nothing comes, but it is dropped as behind any other mark.
	checkRaised(t, j, last, last, aJoin(last, []impl.Frame{end}, []impl.Frame{end}), 2)
	checkRaised(t, j, 1, last, aJoin(last, []impl.Frame{end}, []impl.Frame{end}), 2)
	checkRaised(t, j, 0, last, aJoin(last, nil, nil), 4)
	for _, m := range someMarks() {
		checkRaised(t, impl.NewJoin(), 3, m, aJoin(m, nil, nil), 0)
	}
	row := inRow(3, 50, impl.MaxSide)
	checkRaised(t, aJoin(noMark, row, row), 10, 59, aJoin(59, row, row), 0)
	checkRaised(t, aJoin(noMark, row, row), 10, 60, aJoin(60, nil, nil), mostPlayed)
	checkRaised(t, aJoin(noMark, row, nil), 10, 60, aJoin(60, nil, nil), impl.MaxSide)
	checkRaised(t, aJoin(noMark, nil, row), 10, 60, aJoin(60, nil, nil), impl.MaxSide)
}

func TestRaiseJoinRefuses(t *testing.T) {
	for _, j := range noJoins() {
		for _, m := range []int{noMark, 7, impl.MaxTime} {
			checkRaised(t, j, 0, m, j, -1)
			checkRaised(t, j, -1, m, j, -1)
		}
	}
	for _, j := range someJoins() {
		for _, m := range noMarks() {
			checkRaised(t, j, 0, m, j, -1)
			checkRaised(t, j, impl.MaxTime, m, j, -1)
		}
		for _, by := range noTimes() {
			checkRaised(t, j, by, noMark, j, -1)
			checkRaised(t, j, by, impl.MaxTime, j, -1)
		}
	}
}

// What is held is just what some event may still meet that is not late.
func TestWhatIsHeldMayStillMeet(t *testing.T) {
	for seed := range 30 {
		j := aJoin(noMark, someEvents(seed, 20), someEvents(seed+90, 20))
		for _, by := range []int{0, 1, 4, 20, 70} {
			for m := noMark; m < 70; m++ {
				next, _ := impl.RaiseJoin(j, by, m)
				for _, f := range j.Left {
					_, pairs, code := impl.AddJoin(aJoin(m, []impl.Frame{f}, nil), by, false, event(f.Key, max(m+1, f.Time), 1))
					if held := slices.Contains(next.Left, f); code != impl.JoinDone || held != (len(pairs) > 0) {
						t.Fatalf("by %d at %d %v is held: %t, and meets %v", by, m, f, held, pairs)
					}
				}
			}
		}
	}
}

// A plainJoin is changed by what comes; it wants by as it should be, and frames that are FrameOk.
type plainJoin struct {
	left, right []impl.Frame
	mark        int
}

func (j *plainJoin) add(by int, left bool, f impl.Frame) ([]impl.Pair, int) {
	own := &j.right
	if left {
		own = &j.left
	}
	switch {
	case f.Time <= j.mark:
		return nil, impl.JoinLate
	case len(*own) >= impl.MaxSide:
		return nil, impl.JoinFull
	}
	*own = append(*own, f)
	if left {
		return joinPlainly([]impl.Frame{f}, j.right, by), impl.JoinDone
	}
	return joinPlainly(j.left, []impl.Frame{f}, by), impl.JoinDone
}

func (j *plainJoin) raise(by int, time int) {
	j.mark = max(j.mark, time)
	for _, side := range []*[]impl.Frame{&j.left, &j.right} {
		var kept []impl.Frame
		for _, f := range *side {
			if f.Time > j.mark-by {
				kept = append(kept, f)
			}
		}
		*side = kept
	}
}

func playJoinPlainly(by int, list []impl.Frame, sides []bool) (impl.Join, []impl.Pair, []int) {
	j := &plainJoin{mark: noMark}
	var all []impl.Pair
	var codes []int
	for i, f := range list {
		code := impl.JoinBad
		switch f.Kind {
		case impl.FrameEvent:
			var pairs []impl.Pair
			pairs, code = j.add(by, sides[i], f)
			all = append(all, pairs...)
		case impl.FrameMark:
			code = impl.JoinDone
			j.raise(by, f.Time)
		}
		codes = append(codes, code)
	}
	return aJoin(j.mark, j.left, j.right), all, codes
}

func checkPlayed(t *testing.T, by int, list []impl.Frame, sides []bool, want impl.Join, wantPairs []impl.Pair, wantCodes ...int) {
	t.Helper()
	given, flags := lentFrames(list), append(make([]bool, 0, len(sides)+3), sides...)
	got, pairs, codes := impl.PlayJoin(by, given, flags)
	if !sameJoin(got, want) {
		t.Fatalf("PlayJoin(%d, %v, %v) = %v, want %v", by, list, sides, got, want)
	}
	checkPairs(t, "play", pairs, wantPairs...)
	checkPlaces(t, "codes", codes, wantCodes...)
	if !slices.Equal(flags[:cap(flags)], slices.Concat(sides, make([]bool, cap(flags)-len(flags)))) {
		t.Errorf("%v was written into: %v", sides, flags[:cap(flags)])
	}
	checkFramesKept(t, given, list)
	checkJoinKept(t, aJoin(0, given, nil), aJoin(0, list, nil), got)
}

// onSides reads L as left; whatever else stands there is right.
func onSides(text string) []bool {
	var sides []bool
	for _, b := range []byte(text) {
		sides = append(sides, b == 'L')
	}
	return sides
}

func TestPlayJoin(t *testing.T) {
	const done, late, bad = impl.JoinDone, impl.JoinLate, impl.JoinBad
	five, eight, nine := event(1, 5, 7), event(1, 8, 3), event(1, 9, 1)
	checkPlayed(t, 3, nil, nil, impl.NewJoin(), nil)
	checkPlayed(t, 3, []impl.Frame{}, []bool{}, impl.NewJoin(), nil)
	checkPlayed(t, 3, []impl.Frame{five}, onSides("L"), aJoin(noMark, []impl.Frame{five}, nil), nil, done)
	checkPlayed(t, 3, []impl.Frame{five}, onSides("R"), aJoin(noMark, nil, []impl.Frame{five}), nil, done)
	checkPlayed(t, 3, []impl.Frame{five, eight}, onSides("LR"), aJoin(noMark, []impl.Frame{five}, []impl.Frame{eight}), []impl.Pair{aPair(1, 5, 7, 8, 3)}, done, done)
	checkPlayed(t, 3, []impl.Frame{eight, five}, onSides("RL"), aJoin(noMark, []impl.Frame{five}, []impl.Frame{eight}), []impl.Pair{aPair(1, 5, 7, 8, 3)}, done, done)
	checkPlayed(t, 3, []impl.Frame{five, eight}, onSides("LL"), aJoin(noMark, []impl.Frame{five, eight}, nil), nil, done, done)
	// What a mark drops meets nothing that comes; what is just in time does.
	checkPlayed(t, 3, []impl.Frame{five, mark(7), eight, mark(8), nine}, onSides("LLRRR"), aJoin(8, nil, []impl.Frame{eight, nine}), []impl.Pair{aPair(1, 5, 7, 8, 3)}, done, done, done, done, done)
	checkPlayed(t, 3, []impl.Frame{five, mark(8), nine}, onSides("LLR"), aJoin(8, nil, []impl.Frame{nine}), nil, done, done, done)
	// Just the mark is late; a mark that is not greater changes nothing.
	checkPlayed(t, 3, []impl.Frame{mark(8), eight, nine, mark(3), eight, five}, onSides("LLRLRL"), aJoin(8, nil, []impl.Frame{nine}), nil, done, late, done, done, late, late)
	// A bye is bad, and so is what is not FrameOk; what comes behind goes on.
	checkPlayed(t, 3, []impl.Frame{five, bye(), eight, {}, nine}, onSides("LLRRL"), aJoin(noMark, []impl.Frame{five, nine}, []impl.Frame{eight}),
		[]impl.Pair{aPair(1, 5, 7, 8, 3), aPair(1, 9, 1, 8, 3)}, done, bad, done, bad, done)
	// The pairs come as their events come, not by their numbers.
	checkPlayed(t, 9, []impl.Frame{nine, eight, five, five}, onSides("LRLR"), aJoin(noMark, []impl.Frame{nine, five}, []impl.Frame{eight, five}),
		[]impl.Pair{aPair(1, 9, 1, 8, 3), aPair(1, 5, 7, 8, 3), aPair(1, 9, 1, 5, 7), aPair(1, 5, 7, 5, 7)}, done, done, done, done)
	// All times, by 0 and by MaxTime.
	ends := []impl.Frame{event(4, 0, 1), event(4, impl.MaxTime, 2), mark(impl.MaxTime), event(4, impl.MaxTime, 3)}
	checkPlayed(t, 0, ends, onSides("LRLR"), aJoin(impl.MaxTime, nil, nil), nil, done, done, done, late)
	checkPlayed(t, impl.MaxTime, ends, onSides("LRLR"), aJoin(impl.MaxTime, nil, ends[1:2]), []impl.Pair{aPair(4, 0, 1, impl.MaxTime, 2)}, done, done, done, late)
}

func TestPlayJoinBadFrames(t *testing.T) {
	list := []impl.Frame{event(1, 5, 7), event(1, 6, 1)}
	want, pairs := aJoin(noMark, list[:1], list[1:]), []impl.Pair{aPair(1, 5, 7, 6, 1)}
	for _, f := range append(noFrames(), bye()) {
		for _, side := range []string{"L", "R"} {
			checkPlayed(t, 3, []impl.Frame{f}, onSides(side), impl.NewJoin(), nil, impl.JoinBad)
			checkPlayed(t, 3, []impl.Frame{f, list[0], list[1]}, onSides(side+"LR"), want, pairs, impl.JoinBad, 0, 0)
			checkPlayed(t, 3, []impl.Frame{list[0], f, list[1]}, onSides("L"+side+"R"), want, pairs, 0, impl.JoinBad, 0)
			checkPlayed(t, 3, []impl.Frame{list[0], list[1], f}, onSides("LR"+side), want, pairs, 0, 0, impl.JoinBad)
		}
	}
}

// With no such by each code is bad, and the join stays as it was at the start.
func TestPlayJoinBadBy(t *testing.T) {
	list := []impl.Frame{event(1, 5, 7), event(1, 5, 1), mark(3), mark(0), bye(), {}}
	for _, by := range noTimes() {
		checkPlayed(t, by, list, onSides("LRLRLR"), impl.NewJoin(), nil, slices.Repeat([]int{impl.JoinBad}, len(list))...)
		checkPlayed(t, by, nil, nil, impl.NewJoin(), nil)
		checkPlayed(t, by, list, onSides("LRLRL"), impl.Join{}, nil)
	}
}

func TestPlayJoinOfLongLists(t *testing.T) {
	const most = impl.MaxSide
	row := inRow(3, 50, most)
	list, sides := append(slices.Clone(row), row...), onSides(strings.Repeat("L", most)+strings.Repeat("R", most))
	want := joinPlainly(row, row, 0)
	got, pairs, codes := impl.PlayJoin(0, list, sides)
	if !sameJoin(got, aJoin(noMark, row, row)) || len(pairs) != mostPairs || !impl.SamePairs(pairs, want) || !slices.Equal(codes, make([]int, mostPlayed)) {
		t.Errorf("full sides: %d held, %d pairs, %v", impl.HeldIn(got), len(pairs), codes)
	}
	// A side takes no more than MaxSide.
	codesWant := slices.Concat(make([]int, most), slices.Repeat([]int{impl.JoinFull}, most))
	checkPlayed(t, 0, list, onSides(strings.Repeat("L", mostPlayed)), aJoin(noMark, row, nil), nil, codesWant...)
	checkPlayed(t, 0, list, onSides(strings.Repeat("R", mostPlayed)), aJoin(noMark, nil, row), nil, codesWant...)
	// What was dropped makes room.
	again := slices.Concat(row, []impl.Frame{event(3, 60, 1), mark(50), event(3, 60, 2), event(3, 50, 4)})
	checkPlayed(t, 0, again, onSides(strings.Repeat("L", len(again))), aJoin(50, []impl.Frame{event(3, 60, 2)}, nil), nil,
		append(make([]int, most), impl.JoinFull, impl.JoinDone, impl.JoinDone, impl.JoinLate)...)
	// One more is too long, whatever it is.
	for _, f := range []impl.Frame{row[0], mark(5), bye(), {}} {
		long := append(slices.Clone(list), f)
		checkPlayed(t, 0, long, append(slices.Clone(sides), true), impl.Join{}, nil)
		checkPlayed(t, 0, long, sides, impl.Join{}, nil)
	}
	checkPlayed(t, 0, make([]impl.Frame, mostPlayed+1), make([]bool, mostPlayed+1), impl.Join{}, nil)
	checkPlayed(t, 0, make([]impl.Frame, 5*mostPlayed), make([]bool, 5*mostPlayed), impl.Join{}, nil)
	checkPlayed(t, 0, make([]impl.Frame, mostPlayed), make([]bool, mostPlayed), impl.NewJoin(), nil, slices.Repeat([]int{impl.JoinBad}, mostPlayed)...)
}

// A list of sides that is shorter or longer is refused.
func TestPlayJoinRefusesOtherSides(t *testing.T) {
	list := slices.Concat(inRow(3, 50, 30), inRow(3, 51, 30))
	for n := range len(list) + 1 {
		for _, other := range []int{0, n - 1, n + 1, n + 2, mostPlayed, mostPlayed + 1, 500} {
			if other >= 0 && other != n {
				checkPlayed(t, 3, list[:n], make([]bool, other), impl.Join{}, nil)
			}
		}
	}
	checkPlayed(t, 3, nil, []bool{true}, impl.Join{}, nil)
	checkPlayed(t, 3, list[:1], nil, impl.Join{}, nil)
}

// aDuet has few enough events on each side, and tells which of them are left.
func aDuet(seed int) ([]impl.Frame, []bool) {
	next := stir(seed)
	counts := [2]int{next(impl.MaxSide + 1), next(impl.MaxSide + 1)}
	if seed%7 == 0 {
		counts = [2]int{impl.MaxSide, impl.MaxSide}
	}
	sides := slices.Concat(slices.Repeat([]bool{true}, counts[0]), slices.Repeat([]bool{false}, counts[1]))
	sides = turnedAbout(sides, seed)
	var list []impl.Frame
	for range sides {
		list = append(list, event(next(3), next(30), next(5)-2))
	}
	return list, sides
}

func ofSide(list []impl.Frame, sides []bool, left bool) []impl.Frame {
	var own []impl.Frame
	for i, f := range list {
		if sides[i] == left && f.Kind == impl.FrameEvent {
			own = append(own, f)
		}
	}
	return own
}

// Of events that come in any order, none late, the pairs are those of the whole lists.
func TestJoinedAreThePairsOfTheWholeLists(t *testing.T) {
	all := 0
	for seed := range 150 {
		list, sides := aDuet(seed)
		left, right := ofSide(list, sides, true), ofSide(list, sides, false)
		for _, by := range []int{0, 1, 4, 29, impl.MaxTime} {
			want, ok := impl.JoinWithin(left, right, by)
			j, pairs, codes := impl.PlayJoin(by, list, sides)
			if !ok || !slices.Equal(codes, make([]int, len(list))) || !impl.SamePairs(pairs, want) || !sameJoin(j, aJoin(noMark, left, right)) {
				t.Fatalf("by %d of %v, %v: %t, %v, %v, %v, want %v", by, list, sides, ok, j, pairs, codes, want)
			}
			checkPairs(t, "sorted", impl.SortPairs(pairs), impl.SortPairs(joinPlainly(left, right, by))...)
			all += len(pairs)
			order := turnedAbout(placesOf(len(list)), seed+1)
			var list2 []impl.Frame
			var sides2 []bool
			for _, x := range order {
				list2, sides2 = append(list2, list[x]), append(sides2, sides[x])
			}
			if _, others, _ := impl.PlayJoin(by, list2, sides2); !impl.SamePairs(others, pairs) {
				t.Fatalf("by %d of %v, %v: %v, in another order %v", by, list, sides, pairs, others)
			}
		}
	}
	if all < 20000 {
		t.Errorf("%d pairs", all)
	}
}

// withMarks puts marks between the events for which none that comes behind is late: each mark is as
// great as it can be, or less.
func withMarks(list []impl.Frame, sides []bool, seed int) ([]impl.Frame, []bool) {
	next := stir(seed)
	var marked []impl.Frame
	var flags []bool
	for i, f := range list {
		least := impl.MaxTime
		for _, behind := range list[i:] {
			least = min(least, behind.Time)
		}
		if least > 0 && len(marked)+len(list)-i < mostPlayed {
			marked, flags = append(marked, mark(max(0, least-1-next(2)*next(9)))), append(flags, next(2) == 0)
		}
		marked, flags = append(marked, f), append(flags, sides[i])
	}
	return marked, flags
}

// However much marks drop, no pair is lost while none is late.
func TestMarksLoseNoPairs(t *testing.T) {
	all, dropped := 0, 0
	for seed := range 150 {
		list, sides := aDuet(seed)
		list, sides = list[:min(len(list), impl.MaxSide)], sides[:min(len(sides), impl.MaxSide)]
		// They come roughly by time, so that marks rise.
		order := placesOf(len(list))
		slices.SortStableFunc(order, func(a int, b int) int { return list[a].Time/6 - list[b].Time/6 })
		var byTime []impl.Frame
		var flags []bool
		for _, x := range order {
			byTime, flags = append(byTime, list[x]), append(flags, sides[x])
		}
		marked, markedSides := withMarks(byTime, flags, seed)
		for _, by := range []int{0, 1, 4, 29} {
			want, _ := impl.JoinWithin(ofSide(byTime, flags, true), ofSide(byTime, flags, false), by)
			j, pairs, codes := impl.PlayJoin(by, marked, markedSides)
			if !slices.Equal(codes, make([]int, len(marked))) || !impl.SamePairs(pairs, want) {
				t.Fatalf("by %d of %v, %v: %v, %v, want %v", by, marked, markedSides, pairs, codes, want)
			}
			all, dropped = all+len(pairs), dropped+len(byTime)-impl.HeldIn(j)
		}
	}
	if all < 3000 || dropped < 3000 {
		t.Errorf("%d pairs, %d dropped", all, dropped)
	}
}

// Whatever comes, each step is as a plain join does it.
func TestPlayJoinOfManyLists(t *testing.T) {
	seen := map[int]int{}
	for seed := range 400 {
		next := stir(seed + 3000)
		var list []impl.Frame
		var sides []bool
		for i := range next(mostPlayed + 1) {
			f := event(next(2), i/2+next(25), next(7)-3)
			switch next(12) {
			case 0:
				f = mark(i/2 + next(8))
			case 1:
				f = bye()
			}
			list, sides = append(list, f), append(sides, next(9) < seed%10)
		}
		if seed%2 == 0 {
			list = slices.DeleteFunc(list, func(f impl.Frame) bool { return f.Kind == impl.FrameMark })
			sides = sides[:len(list)]
		}
		for _, by := range []int{0, 2, 11, impl.MaxTime} {
			want, wantPairs, wantCodes := playJoinPlainly(by, list, sides)
			checkPlayed(t, by, list, sides, want, wantPairs, wantCodes...)
			for _, code := range wantCodes {
				seen[code]++
			}
		}
	}
	for code := range 4 {
		if seen[code] < 100 {
			t.Errorf("the code %d comes %d times", code, seen[code])
		}
	}
}
