package tests

import (
	"fmt"
	"math"
	"slices"
	"strings"
	"testing"

	"loop.example/g00728/impl"
)

func checkPlaces(t *testing.T, what string, got []int, want ...int) {
	t.Helper()
	if !slices.Equal(got, want) {
		t.Errorf("%s: got %v, want %v", what, got, want)
	}
}

func TestOtherLimits(t *testing.T) {
	if impl.MaxSessions != 200 {
		t.Error("limits")
	}
}

// slidesPlainly goes through all windows from 0 on, without a care for how long it takes.
func slidesPlainly(time int, size int, hop int) []int {
	var list []int
	for k := 0; k*hop <= time; k++ {
		if time < k*hop+size {
			list = append(list, k)
		}
	}
	return list
}

func TestSlidesOf(t *testing.T) {
	const last = impl.MaxTime
	for _, c := range []struct {
		time, size, hop int
		want            []int
	}{
		{12, 10, 5, []int{1, 2}}, {3, 10, 5, []int{0}}, {0, 10, 5, []int{0}}, {9, 10, 5, []int{0, 1}}, {10, 10, 5, []int{1, 2}}, {14, 10, 5, []int{1, 2}}, {15, 10, 5, []int{2, 3}},
		// The hop does not go into the size.
		{8, 10, 3, []int{0, 1, 2}}, {9, 10, 3, []int{0, 1, 2, 3}}, {10, 10, 3, []int{1, 2, 3}}, {11, 10, 3, []int{1, 2, 3}}, {12, 10, 3, []int{1, 2, 3, 4}},
		// As far as they are long.
		{9, 10, 10, []int{0}}, {10, 10, 10, []int{1}}, {0, 1, 1, []int{0}}, {7, 1, 1, []int{7}}, {last, 1, 1, []int{last}},
		// Hops greater than the size leave times out.
		{0, 2, 10, []int{0}}, {1, 2, 10, []int{0}}, {2, 2, 10, nil}, {7, 2, 10, nil}, {9, 2, 10, nil}, {10, 2, 10, []int{1}}, {11, 2, 10, []int{1}}, {12, 2, 10, nil},
		{0, 1, last, []int{0}}, {1, 1, last, nil}, {last - 1, 1, last, nil}, {last, 1, last, []int{1}}, {last - 1, last - 1, last, nil}, {last - 2, last - 1, last, []int{0}},
		// Both ends of time.
		{0, last, last, []int{0}}, {last - 1, last, last, []int{0}}, {last, last, last, []int{1}}, {last, last, last - 1, []int{1}}, {last - 1, last, last - 1, []int{0, 1}},
		{last, last, 400000, []int{1, 2}}, {last - 1, last, 400000, []int{0, 1, 2}}, {last, 3, 2, []int{499999, 500000}}, {0, last, 1, []int{0}}, {2, last, 1, []int{0, 1, 2}},
	} {
		checkPlaces(t, fmt.Sprintf("SlidesOf(%d, %d, %d)", c.time, c.size, c.hop), impl.SlidesOf(c.time, c.size, c.hop), c.want...)
	}
}

// Exactly MaxList windows of a time are told, one more are not.
func TestSlidesOfManyWindows(t *testing.T) {
	const many = impl.MaxList
	for _, c := range []struct{ time, size, hop, want int }{
		{many - 1, many, 1, many}, {many, many, 1, many}, {impl.MaxTime, many, 1, many}, {many - 2, many, 1, many - 1},
		{many - 1, many + 1, 1, many}, {many, many + 1, 1, 0}, {impl.MaxTime, many + 1, 1, 0},
		{many - 1, impl.MaxTime, 1, many}, {many, impl.MaxTime, 1, 0}, {impl.MaxTime, impl.MaxTime, 1, 0}, {impl.MaxTime, impl.MaxTime, 2, 0},
		{10*many - 1, 10 * many, 10, many}, {impl.MaxTime, 10 * many, 10, many}, {impl.MaxTime - 1, 10*many + 1, 10, many}, {impl.MaxTime, 10*many + 1, 10, 0}, {10 * many, 10*many + 1, 10, 0},
	} {
		got := impl.SlidesOf(c.time, c.size, c.hop)
		if len(got) != c.want {
			t.Errorf("SlidesOf(%d, %d, %d) tells %d windows, want %d", c.time, c.size, c.hop, len(got), c.want)
		}
		if c.want > 0 {
			checkPlaces(t, "many", got, slidesPlainly(c.time, c.size, c.hop)...)
		}
	}
}

func TestSlidesRefuse(t *testing.T) {
	for _, x := range noTimes() {
		checkPlaces(t, "time", impl.SlidesOf(x, 10, 5))
		checkPlaces(t, "time, size", impl.SlidesOf(x, 0, 5))
		if end := impl.SlideEnd(x, 10, 5); end != -1 {
			t.Errorf("the end of window %d is %d", x, end)
		}
	}
	for _, x := range noSizes() {
		for _, time := range someTimes() {
			checkPlaces(t, "size", impl.SlidesOf(time, x, 5))
			checkPlaces(t, "hop", impl.SlidesOf(time, 10, x))
			checkPlaces(t, "both", impl.SlidesOf(time, x, x))
			if a, b := impl.SlideEnd(time, x, 5), impl.SlideEnd(time, 10, x); a != -1 || b != -1 {
				t.Errorf("the ends of window %d of %d are %d and %d", time, x, a, b)
			}
		}
		for _, y := range []int{1, 10, impl.MaxTime, x} {
			if a, b := impl.CoverCount(x, y), impl.CoverCount(y, x); a != -1 || b != -1 {
				t.Errorf("CoverCount of %d and %d is %d and %d", x, y, a, b)
			}
		}
	}
}

func TestSlideEnd(t *testing.T) {
	const last = impl.MaxTime
	for _, c := range []struct{ k, size, hop, want int }{
		{2, 10, 5, 19}, {0, 10, 5, 9}, {1, 10, 5, 14}, {0, 1, 1, 0}, {7, 1, 1, 7}, {3, 2, 10, 31}, {0, last, 1, last - 1}, {1, last, 1, last},
		{last, 1, 1, last}, {last, last, 1, 2*last - 1}, {last, 1, last, last * last}, {last, last, last, last*last + last - 1}, {1, 1, last, last},
	} {
		if got := impl.SlideEnd(c.k, c.size, c.hop); got != c.want {
			t.Errorf("SlideEnd(%d, %d, %d) = %d, want %d", c.k, c.size, c.hop, got, c.want)
		}
	}
}

func TestCoverCount(t *testing.T) {
	const last = impl.MaxTime
	for _, c := range []struct{ size, hop, want int }{
		{10, 3, 4}, {10, 5, 2}, {9, 3, 3}, {10, 10, 1}, {10, 9, 2}, {10, 11, 1}, {2, 10, 1}, {1, 1, 1}, {1, last, 1}, {last, last, 1}, {last, last - 1, 2},
		{last, 1, last}, {last, 2, last / 2}, {last, 3, 333334}, {last - 1, 3, 333333}, {last - 1, last, 1}, {300, 1, 300}, {301, 1, 301},
	} {
		if got := impl.CoverCount(c.size, c.hop); got != c.want {
			t.Errorf("CoverCount(%d, %d) = %d, want %d", c.size, c.hop, got, c.want)
		}
	}
}

// Just the windows that have a time are told, ascending; they are never more than CoverCount, and
// somewhere they are as many.
func TestTimesLieInTheirSlides(t *testing.T) {
	for size := 1; size <= 24; size++ {
		for hop := 1; hop <= 30; hop++ {
			cover := impl.CoverCount(size, hop)
			most := 0
			for time := range 80 {
				got := impl.SlidesOf(time, size, hop)
				checkPlaces(t, "slides", got, slidesPlainly(time, size, hop)...)
				most = max(most, len(got))
			}
			if most != cover {
				t.Errorf("a time lies in %d windows of size %d and hop %d, but CoverCount is %d", most, size, hop, cover)
			}
		}
	}
}

// A window has its first and its last time, and neither the one ahead nor the one behind.
func TestSlidesHaveTheirEnds(t *testing.T) {
	for _, size := range []int{1, 2, 7, 10, 300, 1000} {
		for _, hop := range []int{4, 5, 10, 11, 1000, impl.MaxTime / 9} {
			for _, k := range []int{0, 1, 2, 8} {
				end := impl.SlideEnd(k, size, hop)
				for _, c := range []struct {
					time int
					in   bool
				}{{end, true}, {end + 1, false}, {end - size + 1, true}, {end - size, false}} {
					if c.time >= 0 && slices.Contains(impl.SlidesOf(c.time, size, hop), k) != c.in {
						t.Errorf("the window %d of size %d and hop %d at %d: not %t", k, size, hop, c.time, c.in)
					}
				}
			}
		}
	}
}

func TestFoldSlides(t *testing.T) {
	const mt, mk, mv = impl.MaxTime, impl.MaxKey, impl.MaxValue
	for _, c := range []struct {
		list      []impl.Frame
		size, hop int
		want      []impl.Agg
	}{
		{nil, 10, 5, nil},
		{[]impl.Frame{}, 1, 1, nil},
		{[]impl.Frame{event(1, 3, 1)}, 10, 5, []impl.Agg{anAgg(0, 1, 1)}},
		{[]impl.Frame{event(1, 12, 7)}, 10, 5, []impl.Agg{anAgg(1, 1, 7), anAgg(2, 1, 7)}},
		// Two events of one key share one window of their two.
		{[]impl.Frame{event(1, 12, 7), event(1, 8, -2)}, 10, 5, []impl.Agg{anAgg(0, 1, -2), anAgg(1, 1, -2, 7), anAgg(2, 1, 7)}},
		// By window, then key.
		{[]impl.Frame{event(9, 12, 1), event(2, 12, 2), event(5, 3, 3)}, 10, 5,
			[]impl.Agg{anAgg(0, 5, 3), anAgg(1, 2, 2), anAgg(1, 9, 1), anAgg(2, 2, 2), anAgg(2, 9, 1)}},
		// Hops greater than the size leave events out.
		{[]impl.Frame{event(1, 7, 1), event(1, 10, 2), event(1, 12, 4), event(1, 1, 8), event(1, 11, 16)}, 2, 10, []impl.Agg{anAgg(0, 1, 8), anAgg(1, 1, 2, 16)}},
		{[]impl.Frame{event(1, 7, 1)}, 2, 10, nil},
		// Both ends of time.
		{[]impl.Frame{event(mk, mt, mv), event(0, 0, -mv)}, mt, mt, []impl.Agg{anAgg(0, 0, -mv), anAgg(1, mk, mv)}},
		{[]impl.Frame{event(mk, mt, mv)}, 1, 1, []impl.Agg{anAgg(mt, mk, mv)}},
		// Marks and byes are no events.
		{[]impl.Frame{mark(mt), event(1, 5, 2), bye(), mark(3), event(1, 3, 4)}, 10, 5, []impl.Agg{anAgg(0, 1, 2, 4), anAgg(1, 1, 2)}},
		{[]impl.Frame{mark(3), bye()}, 10, 5, nil},
	} {
		checkAggs(t, fmt.Sprintf("FoldSlides(%v, %d, %d)", c.list, c.size, c.hop), impl.FoldSlides(c.list, c.size, c.hop), c.want)
	}
}

// slideFoldPlainly makes an event of each window that an event has, and folds them by their windows.
func slideFoldPlainly(list []impl.Frame, size int, hop int) []impl.Agg {
	var events []impl.Frame
	for _, f := range list {
		for _, k := range slidesPlainly(f.Time, size, hop) {
			events = append(events, event(f.Key, k, f.Value))
		}
	}
	return foldedPlainly(events, 1)
}

// Each event counts once in each of its windows, which are at most CoverCount, and nowhere else.
func TestEventsCountOnceInEachSlide(t *testing.T) {
	for seed := range 25 {
		list := someEvents(seed, 40)
		for _, size := range []int{1, 3, 10, 59, impl.MaxTime} {
			for _, hop := range []int{1, 2, 3, 5, 10, 11, 70} {
				got := impl.FoldSlides(list, size, hop)
				checkAggs(t, "slides", got, slideFoldPlainly(list, size, hop))
				counts, windows := impl.TotalCount(got), 0
				for _, f := range list {
					windows += len(impl.SlidesOf(f.Time, size, hop))
				}
				if counts != windows || counts > len(list)*impl.CoverCount(size, hop) {
					t.Fatalf("%d events count %d times in %d windows", len(list), counts, windows)
				}
				turned := slices.Clone(list)
				slices.Reverse(turned)
				checkAggs(t, "turned", impl.FoldSlides(turned, size, hop), got)
			}
			checkAggs(t, "no hop of its own", impl.FoldSlides(list, size, size), impl.FoldAll(list, size))
		}
	}
}

func TestFoldSlidesLeavesOutOtherFrames(t *testing.T) {
	// Each would have far too many windows, were it an event.
	for _, f := range append(noFrames(), mark(impl.MaxTime), bye()) {
		checkAggs(t, "alone", impl.FoldSlides([]impl.Frame{f}, impl.MaxTime, 1), nil)
		checkAggs(t, "among others", impl.FoldSlides([]impl.Frame{event(5, 0, 1), f, event(5, 1, 2)}, impl.MaxTime, 1), []impl.Agg{anAgg(0, 5, 1, 2), anAgg(1, 5, 2)})
	}
	checkAggs(t, "all", impl.FoldSlides(noFrames(), 10, 5), nil)
}

func TestFoldSlidesRefuses(t *testing.T) {
	list := []impl.Frame{event(1, 2, 3), event(4, 5, 6)}
	for _, x := range noSizes() {
		checkAggs(t, "size", impl.FoldSlides(list, x, 5), nil)
		checkAggs(t, "hop", impl.FoldSlides(list, 10, x), nil)
		checkAggs(t, "both", impl.FoldSlides(nil, x, x), nil)
	}
	want := []impl.Agg{anAgg(0, 1, 3), anAgg(0, 4, 6), anAgg(1, 4, 6)}
	checkAggs(t, "as many as may be", impl.FoldSlides(append(list, make([]impl.Frame, impl.MaxList-2)...), 10, 5), want)
	checkAggs(t, "one more", impl.FoldSlides(append(list, make([]impl.Frame, impl.MaxList-1)...), 10, 5), nil)
	checkAggs(t, "one more event", impl.FoldSlides(slices.Repeat(list[:1], impl.MaxList+1), 10, 5), nil)
}

// A single event with one window more than MaxList is enough to refuse all.
func TestFoldSlidesOfManyWindows(t *testing.T) {
	const many = impl.MaxList
	few, most := event(1, 0, 4), event(2, many-1, 5)
	var want []impl.Agg
	for k := range many {
		want = append(want, anAgg(k, 2, 5))
	}
	checkAggs(t, "most", impl.FoldSlides([]impl.Frame{most}, many+1, 1), want)
	checkAggs(t, "beside another", impl.FoldSlides([]impl.Frame{most, few}, many+1, 1), slices.Insert(want, 0, anAgg(0, 1, 4)))
	over := event(3, many, 6)
	for _, list := range [][]impl.Frame{{over}, {over, few}, {few, over}, {few, most, over, most}} {
		checkAggs(t, "one more", impl.FoldSlides(list, many+1, 1), nil)
		checkAggs(t, "all of them", impl.FoldSlides(list, impl.MaxTime, 1), nil)
	}
	// As many frames as may be, each in as many windows.
	full := impl.FoldSlides(slices.Repeat([]impl.Frame{event(7, impl.MaxTime, impl.MaxValue)}, many), many, 1)
	if len(full) != many || impl.TotalCount(full) != many*many || full[0].Win != impl.MaxTime-many+1 || full[0].Sum != many*impl.MaxValue {
		t.Errorf("a full list has %d windows and %d counts", len(full), impl.TotalCount(full))
	}
}

func aSession(key int, from int, to int, count int, sum int) impl.Session {
	return impl.Session{Key: key, From: from, To: to, Count: count, Sum: sum}
}

func someSessions() []impl.Session {
	const mt, mk, ms = impl.MaxTime, impl.MaxKey, impl.MaxSum
	return []impl.Session{
		{Count: 1}, aSession(1, 3, 6, 2, 3), aSession(0, 50, 50, 1, -9), aSession(mk, 0, mt, ms, ms), aSession(mk-1, mt, mt, 1, -ms), aSession(7, 0, 0, ms, 0),
		aSession(7, mt-1, mt, ms-1, -ms+1), aSession(0, 0, mt, 1, ms-1),
	}
}

func noSessions() []impl.Session {
	list := []impl.Session{{}, {Key: 1, From: 3, To: 6}, aSession(1, 6, 5, 2, 3), aSession(1, impl.MaxTime, 0, 2, 3), aSession(1, 1, 0, 2, 3)}
	with := func(change func(s *impl.Session, x int), numbers ...int) {
		for _, x := range append(numbers, math.MaxInt, math.MinInt) {
			s := aSession(1, 3, 6, 2, 3)
			change(&s, x)
			list = append(list, s)
		}
	}
	with(func(s *impl.Session, x int) { s.Key = x }, -1, -2, impl.MaxKey+1, 1<<17)
	with(func(s *impl.Session, x int) { s.From = x }, -1, -2, impl.MaxTime+1)
	with(func(s *impl.Session, x int) { s.To = x }, -1, 2, impl.MaxTime+1)
	with(func(s *impl.Session, x int) { s.From, s.To = x, x }, -1, impl.MaxTime+1)
	with(func(s *impl.Session, x int) { s.Count = x }, 0, -1, -impl.MaxSum, impl.MaxSum+1)
	with(func(s *impl.Session, x int) { s.Sum = x }, -impl.MaxSum-1, impl.MaxSum+1)
	return list
}

func TestSessionOk(t *testing.T) {
	for _, s := range someSessions() {
		if !impl.SessionOk(s) {
			t.Errorf("SessionOk(%v) is false", s)
		}
	}
	for _, s := range noSessions() {
		if impl.SessionOk(s) {
			t.Errorf("SessionOk(%v) is true", s)
		}
	}
}

func TestSessionText(t *testing.T) {
	for _, c := range []struct {
		s    impl.Session
		want string
	}{
		{aSession(0, 50, 50, 1, 9), "0@50-50:1 9"}, {aSession(1, 3, 6, 2, -3), "1@3-6:2 -3"}, {impl.Session{Count: 1}, "0@0-0:1 0"},
		{aSession(impl.MaxKey, 0, impl.MaxTime, impl.MaxSum, -impl.MaxSum), "65535@0-1000000:1000000000 -1000000000"},
		{aSession(10, 20, 30, 40, impl.MaxSum), "10@20-30:40 1000000000"},
	} {
		if got := impl.SessionText(c.s); got != c.want {
			t.Errorf("SessionText(%v) = %q, want %q", c.s, got, c.want)
		}
	}
	for _, s := range noSessions() {
		if got := impl.SessionText(s); got != "" {
			t.Errorf("SessionText(%v) = %q", s, got)
		}
	}
}

// sessionsText is for messages, and so tells also what is no Session.
func sessionsText(list []impl.Session) string {
	var lines []string
	for _, s := range list {
		lines = append(lines, fmt.Sprintf("%d@%d-%d:%d %d", s.Key, s.From, s.To, s.Count, s.Sum))
	}
	return strings.Join(lines, ", ")
}

func checkSessions(t *testing.T, what string, got []impl.Session, want ...impl.Session) {
	t.Helper()
	if !slices.Equal(got, want) {
		t.Errorf("%s:\ngot  %s\nwant %s", what, sessionsText(got), sessionsText(want))
	}
}

// sessionsPlainly goes through the events by key and time, and cuts where they lie too far apart.
func sessionsPlainly(list []impl.Frame, gap int) []impl.Session {
	events := slices.Clone(list)
	slices.SortFunc(events, func(a impl.Frame, b impl.Frame) int {
		if a.Key != b.Key {
			return a.Key - b.Key
		}
		return a.Time - b.Time
	})
	var sessions []impl.Session
	for i, f := range events {
		if i == 0 || events[i-1].Key != f.Key || f.Time-events[i-1].Time > gap {
			sessions = append(sessions, impl.Session{Key: f.Key, From: f.Time})
		}
		s := &sessions[len(sessions)-1]
		s.To = f.Time
		s.Count++
		s.Sum += f.Value
	}
	return sessions
}

func TestSessionsOf(t *testing.T) {
	const mt, mk, mv = impl.MaxTime, impl.MaxKey, impl.MaxValue
	list := []impl.Frame{event(1, 3, 1), event(1, 20, 4), event(1, 6, 2), event(0, 50, 9)}
	for _, c := range []struct {
		list []impl.Frame
		gap  int
		want []impl.Session
	}{
		{nil, 5, nil},
		{[]impl.Frame{}, 0, nil},
		{list[:1], 5, []impl.Session{aSession(1, 3, 3, 1, 1)}},
		{list, 5, []impl.Session{aSession(0, 50, 50, 1, 9), aSession(1, 3, 6, 2, 3), aSession(1, 20, 20, 1, 4)}},
		// Exactly gap apart is one session, one further is not.
		{list, 3, []impl.Session{aSession(0, 50, 50, 1, 9), aSession(1, 3, 6, 2, 3), aSession(1, 20, 20, 1, 4)}},
		{list, 2, []impl.Session{aSession(0, 50, 50, 1, 9), aSession(1, 3, 3, 1, 1), aSession(1, 6, 6, 1, 2), aSession(1, 20, 20, 1, 4)}},
		{list, 13, []impl.Session{aSession(0, 50, 50, 1, 9), aSession(1, 3, 6, 2, 3), aSession(1, 20, 20, 1, 4)}},
		{list, 14, []impl.Session{aSession(0, 50, 50, 1, 9), aSession(1, 3, 20, 3, 7)}},
		// The last one joins two.
		{[]impl.Frame{event(4, 10, 1), event(4, 30, 2), event(4, 20, 4)}, 10, []impl.Session{aSession(4, 10, 30, 3, 7)}},
		{[]impl.Frame{event(4, 10, 1), event(4, 30, 2), event(4, 21, 4)}, 10, []impl.Session{aSession(4, 10, 10, 1, 1), aSession(4, 21, 30, 2, 6)}},
		// No gap: only events of the very same time.
		{[]impl.Frame{event(4, 10, 1), event(4, 11, 2), event(4, 10, 4)}, 0, []impl.Session{aSession(4, 10, 10, 2, 5), aSession(4, 11, 11, 1, 2)}},
		// A gap of all time: one session for each key.
		{[]impl.Frame{event(mk, mt, mv), event(0, 7, 1), event(mk, 0, -5), event(0, 500, 2)}, mt, []impl.Session{aSession(0, 7, 500, 2, 3), aSession(mk, 0, mt, 2, mv-5)}},
		{[]impl.Frame{event(mk, mt, mv), event(mk, 0, -5)}, mt - 1, []impl.Session{aSession(mk, 0, 0, 1, -5), aSession(mk, mt, mt, 1, mv)}},
		// Marks and byes are no events, and hold no session together.
		{[]impl.Frame{event(0, 5, 1), mark(10), bye(), event(0, 15, 2), mark(0)}, 9, []impl.Session{aSession(0, 5, 5, 1, 1), aSession(0, 15, 15, 1, 2)}},
		{[]impl.Frame{mark(3), bye()}, 5, nil},
	} {
		checkSessions(t, fmt.Sprintf("SessionsOf(%v, %d)", c.list, c.gap), impl.SessionsOf(c.list, c.gap), c.want...)
	}
}

func TestSessionsOfLeavesOutOtherFrames(t *testing.T) {
	for _, f := range noFrames() {
		checkSessions(t, "alone", impl.SessionsOf([]impl.Frame{f}, 10))
		checkSessions(t, "among others", impl.SessionsOf([]impl.Frame{event(5, 5, 1), f, event(5, 7, 2)}, 1), aSession(5, 5, 5, 1, 1), aSession(5, 7, 7, 1, 2))
	}
	checkSessions(t, "all", impl.SessionsOf(noFrames(), impl.MaxTime))
}

func TestSessionsOfRefuses(t *testing.T) {
	list := []impl.Frame{event(1, 2, 3), event(4, 5, 6)}
	for _, gap := range noTimes() {
		checkSessions(t, "gap", impl.SessionsOf(list, gap))
	}
	for _, gap := range []int{0, 5, impl.MaxTime} {
		checkSessions(t, "as many as may be", impl.SessionsOf(append(list, make([]impl.Frame, impl.MaxList-2)...), gap), aSession(1, 2, 2, 1, 3), aSession(4, 5, 5, 1, 6))
		checkSessions(t, "one more", impl.SessionsOf(append(list, make([]impl.Frame, impl.MaxList-1)...), gap))
		checkSessions(t, "one more event", impl.SessionsOf(slices.Repeat(list, impl.MaxList/2+1), gap))
	}
}

// farEvents are n events of one key that lie ten apart, the last one first.
func farEvents(key int, n int) []impl.Frame {
	var list []impl.Frame
	for i := range n {
		list = append(list, event(key, (n-i)*10, i))
	}
	return list
}

// A list of events may have more sessions than may be added to.
func TestSessionsOfMany(t *testing.T) {
	list := farEvents(3, impl.MaxList)
	got := impl.SessionsOf(list, 9)
	checkSessions(t, "apart", got, sessionsPlainly(list, 9)...)
	if len(got) != impl.MaxList {
		t.Errorf("%d sessions", len(got))
	}
	checkSessions(t, "at one time", impl.SessionsOf(slices.Repeat([]impl.Frame{event(3, 4, impl.MaxValue)}, impl.MaxList), 0), aSession(3, 4, 4, impl.MaxList, impl.MaxList*impl.MaxValue))
	checkSessions(t, "all joined", impl.SessionsOf(list, 10), aSession(3, 10, impl.MaxList*10, impl.MaxList, impl.MaxList*(impl.MaxList-1)/2))
}

func checkFarApart(t *testing.T, list []impl.Session, gap int) {
	t.Helper()
	for i, s := range list {
		if !impl.SessionOk(s) || i > 0 && (list[i-1].Key > s.Key || list[i-1].Key == s.Key && s.From-list[i-1].To <= gap) {
			t.Fatalf("with gap %d: %s", gap, sessionsText(list))
		}
	}
}

// In whatever order the events come, their sessions are the same, and those of one key lie more than gap apart.
func TestSessionsAreTheSameInAnyOrder(t *testing.T) {
	joined, all := 0, 0
	for seed := range 60 {
		next := stir(500 + seed)
		var list []impl.Frame
		for range 1 + next(50) {
			list = append(list, event(next(3), next(400), next(200)-100))
		}
		for _, gap := range []int{0, 1, 4, 9, 30, 400, impl.MaxTime} {
			want := impl.SessionsOf(list, gap)
			checkSessions(t, "sessions", want, sessionsPlainly(list, gap)...)
			checkFarApart(t, want, gap)
			all += len(want)
			for range 6 {
				for i := range list {
					j := next(i + 1)
					list[i], list[j] = list[j], list[i]
				}
				checkSessions(t, "another order", impl.SessionsOf(list, gap), want...)
				joined += addOneByOne(t, list, gap)
			}
		}
	}
	// The lists are worth something only when there are many sessions, and many that an event joins.
	if all < 2000 || joined < 300 {
		t.Errorf("%d sessions, %d joined", all, joined)
	}
}

// addOneByOne adds each event to the sessions of those ahead of it, and counts those that joined two sessions.
func addOneByOne(t *testing.T, list []impl.Frame, gap int) int {
	t.Helper()
	joined := 0
	var s []impl.Session
	for i, f := range list {
		next, ok := impl.AddToSessions(s, f, gap)
		if !ok {
			t.Fatalf("%v is refused by %s", f, sessionsText(s))
		}
		checkSessions(t, "one more", next, impl.SessionsOf(list[:i+1], gap)...)
		if len(next) < len(s) {
			joined++
		}
		s = next
	}
	return joined
}

func checkAdded(t *testing.T, list []impl.Session, f impl.Frame, gap int, want ...impl.Session) {
	t.Helper()
	given := append(make([]impl.Session, 0, len(list)+3), list...)
	got, ok := impl.AddToSessions(given, f, gap)
	if !ok {
		t.Errorf("%v with gap %d is refused by %s", f, gap, sessionsText(list))
	}
	checkSessions(t, "add", got, want...)
	checkSessionsKept(t, given, list, got)
}

func checkNotAdded(t *testing.T, list []impl.Session, f impl.Frame, gap int) {
	t.Helper()
	given := append(make([]impl.Session, 0, len(list)+3), list...)
	got, ok := impl.AddToSessions(given, f, gap)
	if ok {
		t.Errorf("%v with gap %d is added to %s", f, gap, sessionsText(list))
	}
	checkSessions(t, "not added", got, list...)
	checkSessionsKept(t, given, list, got)
}

// checkSessionsKept finds what was written into a list, also behind its end, and what of the answer lies in its memory.
func checkSessionsKept(t *testing.T, given []impl.Session, was []impl.Session, answer []impl.Session) {
	t.Helper()
	all := given[:cap(given)]
	kept := slices.Concat(was, make([]impl.Session, cap(given)-len(given)))
	if !slices.Equal(all, kept) {
		t.Errorf("%s was written into: %s", sessionsText(kept), sessionsText(all))
	}
	for i := range answer[:cap(answer)] {
		answer[:cap(answer)][i] = impl.Session{Key: -77}
	}
	if !slices.Equal(all, kept) {
		t.Errorf("the answer shares memory with %s", sessionsText(kept))
	}
}

func TestAddToSessions(t *testing.T) {
	const last = impl.MaxTime
	zero, one, two, nine := aSession(0, 50, 50, 1, 9), aSession(1, 3, 6, 2, 3), aSession(1, 20, 30, 4, 4), aSession(9, 0, last, 5, 5)
	list := []impl.Session{zero, one, two, nine}
	for _, c := range []struct {
		key, time, gap int
		want           []impl.Session
	}{
		// In a session, and at both of its ends.
		{1, 4, 5, []impl.Session{zero, aSession(1, 3, 6, 3, 10), two, nine}}, {1, 3, 5, []impl.Session{zero, aSession(1, 3, 6, 3, 10), two, nine}},
		{1, 6, 0, []impl.Session{zero, aSession(1, 3, 6, 3, 10), two, nine}}, {1, 25, 5, []impl.Session{zero, one, aSession(1, 20, 30, 5, 11), nine}},
		// Exactly gap away from one, behind it and ahead of it.
		{1, 11, 5, []impl.Session{zero, aSession(1, 3, 11, 3, 10), two, nine}}, {1, 15, 5, []impl.Session{zero, one, aSession(1, 15, 30, 5, 11), nine}},
		{1, 35, 5, []impl.Session{zero, one, aSession(1, 20, 35, 5, 11), nine}}, {1, 0, 3, []impl.Session{zero, aSession(1, 0, 6, 3, 10), two, nine}},
		// One further.
		{1, 12, 5, []impl.Session{zero, one, aSession(1, 12, 12, 1, 7), two, nine}}, {1, 14, 5, []impl.Session{zero, one, aSession(1, 14, 14, 1, 7), two, nine}},
		{1, 36, 5, []impl.Session{zero, one, two, aSession(1, 36, 36, 1, 7), nine}}, {1, 0, 2, []impl.Session{zero, aSession(1, 0, 0, 1, 7), one, two, nine}},
		{1, 7, 0, []impl.Session{zero, one, aSession(1, 7, 7, 1, 7), two, nine}},
		// It joins two: both exactly gap away, or one nearer.
		{1, 13, 7, []impl.Session{zero, aSession(1, 3, 30, 7, 14), nine}}, {1, 13, 8, []impl.Session{zero, aSession(1, 3, 30, 7, 14), nine}},
		{1, 7, 13, []impl.Session{zero, aSession(1, 3, 30, 7, 14), nine}}, {1, 19, 13, []impl.Session{zero, aSession(1, 3, 30, 7, 14), nine}},
		{1, 12, 7, []impl.Session{zero, aSession(1, 3, 12, 3, 10), two, nine}}, {1, 14, 7, []impl.Session{zero, one, aSession(1, 14, 30, 5, 11), nine}},
		// Within one it does not reach the other, though gap is nearly as wide as what lies between.
		{1, 6, 13, []impl.Session{zero, aSession(1, 3, 6, 3, 10), two, nine}}, {1, 20, 13, []impl.Session{zero, one, aSession(1, 20, 30, 5, 11), nine}},
		// Sessions of other keys are left alone, also at the same times.
		{0, 4, 5, []impl.Session{aSession(0, 4, 4, 1, 7), zero, one, two, nine}}, {0, 60, 5, []impl.Session{zero, aSession(0, 60, 60, 1, 7), one, two, nine}},
		{2, 4, 5, []impl.Session{zero, one, two, aSession(2, 4, 4, 1, 7), nine}}, {impl.MaxKey, 4, 5, []impl.Session{zero, one, two, nine, aSession(impl.MaxKey, 4, 4, 1, 7)}},
		{9, 4, 0, []impl.Session{zero, one, two, aSession(9, 0, last, 6, 12)}}, {9, last, 0, []impl.Session{zero, one, two, aSession(9, 0, last, 6, 12)}},
	} {
		checkAdded(t, list, event(c.key, c.time, 7), c.gap, c.want...)
	}
	// A list without another.
	for _, gap := range []int{0, 5, last} {
		checkAdded(t, nil, event(4, 12, -7), gap, aSession(4, 12, 12, 1, -7))
		checkAdded(t, []impl.Session{aSession(4, 12, 12, 1, -7)}, event(4, 12, 2), gap, aSession(4, 12, 12, 2, -5))
	}
	checkAdded(t, []impl.Session{aSession(4, 0, 0, 1, 1)}, event(4, last, 2), last, aSession(4, 0, last, 2, 3))
	checkAdded(t, []impl.Session{aSession(4, last, last, 1, 1)}, event(4, 0, 2), last, aSession(4, 0, last, 2, 3))
	checkAdded(t, []impl.Session{aSession(4, last, last, 1, 1)}, event(4, 0, 2), last-1, aSession(4, 0, 0, 1, 2), aSession(4, last, last, 1, 1))
}

func TestAddToSessionsHoldsItsNumbers(t *testing.T) {
	const top = impl.MaxSum
	for _, c := range []struct{ count, sum, value, newCount, newSum int }{
		{7, top - 5, 4, 8, top - 1}, {7, top - 5, 5, 8, top}, {7, top - 5, 6, 8, top}, {7, top, 1, 8, top}, {7, top, -3, 8, top - 3},
		{7, -top + 5, -4, 8, -top + 1}, {7, -top + 5, -5, 8, -top}, {7, -top + 5, -6, 8, -top}, {7, -top, 3, 8, -top + 3},
		{top - 1, 0, 1, top, 1}, {top, 0, 1, top, 1}, {top, top, 5, top, top},
	} {
		checkAdded(t, []impl.Session{aSession(4, 10, 20, c.count, c.sum)}, event(4, 15, c.value), 5, aSession(4, 10, 20, c.newCount, c.newSum))
	}
	for _, c := range []struct{ count, sum, count2, sum2, value, newCount, newSum int }{
		{1, top - 5, 1, 3, 2, 3, top}, {1, top - 5, 1, 3, 1, 3, top - 1}, {1, top - 5, 1, 3, 3, 3, top}, {1, top, 1, top, 0, 3, top}, {1, -top, 1, -top, 9, 3, -top},
		{1, top, 1, -top, 0, 3, 0}, {top - 2, 0, 1, 0, 0, top, 0}, {top - 1, 0, 1, 0, 0, top, 0}, {top, 0, top, 0, 0, top, 0}, {top - 5, 1, 3, 2, 4, top - 1, 7},
	} {
		list := []impl.Session{aSession(4, 10, 20, c.count, c.sum), aSession(4, 30, 40, c.count2, c.sum2)}
		checkAdded(t, list, event(4, 25, c.value), 5, aSession(4, 10, 40, c.newCount, c.newSum))
	}
}

// farSessions are n sessions of one key that lie ten apart.
func farSessions(n int) []impl.Session { return impl.SessionsOf(farEvents(3, n), 9) }

// There may be exactly MaxSessions, ahead of the event and behind it.
func TestAddToManySessions(t *testing.T) {
	const most = impl.MaxSessions
	behind := event(3, 10*most+100, 5)
	last := aSession(3, 10*most+100, 10*most+100, 1, 5)
	checkAdded(t, farSessions(most-1), behind, 9, append(farSessions(most-1), last)...)
	checkNotAdded(t, farSessions(most), behind, 9)
	checkNotAdded(t, farSessions(most), event(2, 15, 5), 9)
	checkNotAdded(t, farSessions(most), event(4, 15, 5), 9)
	checkNotAdded(t, farSessions(most), event(3, 15, 5), 4)
	// One that joins makes no new one.
	want := farSessions(most)
	want[0].Count, want[0].Sum = want[0].Count+1, want[0].Sum+5
	checkAdded(t, farSessions(most), event(3, 10, 5), 9, want...)
	want = farSessions(most)[1:]
	want[0].From, want[0].Count, want[0].Sum = 10, 3, 2*most-3+5
	checkAdded(t, farSessions(most), event(3, 15, 5), 9, want...)
	// More than MaxSessions are none to add to, even where two of them would be one.
	for _, n := range []int{most + 1, most + 2, impl.MaxList} {
		checkNotAdded(t, farSessions(n), event(3, 15, 5), 9)
		checkNotAdded(t, farSessions(n), behind, 9)
	}
}

func TestAddToSessionsRefuses(t *testing.T) {
	one, two, other := aSession(1, 3, 6, 2, 3), aSession(1, 20, 30, 4, 4), aSession(5, 7, 8, 2, 6)
	list := []impl.Session{one, two, other}
	for _, given := range [][]impl.Session{nil, list, farSessions(impl.MaxSessions)} {
		for _, f := range append(noFrames(), mark(4), mark(0), bye()) {
			checkNotAdded(t, given, f, 5)
		}
		for _, gap := range noTimes() {
			checkNotAdded(t, given, event(1, 4, 5), gap)
		}
	}
	events := []impl.Frame{event(1, 4, 5), event(1, 12, 5), event(5, 500, 5), event(0, 4, 5), event(9, 4, 5)}
	for _, f := range events {
		// Out of order: by key, or by time.
		for _, bad := range [][]impl.Session{{two, one}, {other, one}, {one, other, two}, {two, one, other}, {other, other}, {one, one}, {one, two, two}, {one, two, other, one}} {
			checkNotAdded(t, bad, f, 5)
		}
		// Two of one key too near: exactly gap, and less, and one in the other.
		for _, bad := range [][]impl.Session{
			{one, aSession(1, 11, 12, 1, 1)}, {one, aSession(1, 7, 12, 1, 1)}, {one, aSession(1, 6, 12, 1, 1)}, {one, aSession(1, 4, 5, 1, 1)}, {one, aSession(1, 3, 12, 1, 1)},
			{aSession(0, 1, 1, 1, 1), one, aSession(1, 11, 11, 1, 1), other}, {other, aSession(5, 13, 20, 1, 1)},
		} {
			checkNotAdded(t, bad, f, 5)
		}
		// One that is not SessionOk, in each place.
		for _, s := range noSessions() {
			for _, bad := range [][]impl.Session{{s}, {s, other}, {aSession(0, 1, 1, 1, 1), s}, {aSession(0, 1, 1, 1, 1), s, other}, {aSession(0, 1, 1, 1, 1), other, s}} {
				checkNotAdded(t, bad, f, 0)
				checkNotAdded(t, bad, f, impl.MaxTime)
			}
		}
	}
	// One further apart they are a list.
	near := []impl.Session{one, aSession(1, 12, 12, 1, 1)}
	checkAdded(t, near, event(9, 4, 5), 5, append(near, aSession(9, 4, 4, 1, 5))...)
	checkNotAdded(t, near, event(9, 4, 5), 6)
	// Of different keys they may be as near as they like.
	side := []impl.Session{one, aSession(2, 3, 6, 1, 1), aSession(3, 0, 0, 1, 1)}
	checkAdded(t, side, event(2, 4, 5), impl.MaxTime, one, aSession(2, 3, 6, 2, 6), aSession(3, 0, 0, 1, 1))
}

func TestClosedSessions(t *testing.T) {
	list := []impl.Session{aSession(0, 50, 50, 1, 9), aSession(1, 3, 6, 2, 3), aSession(1, 20, 20, 1, 4), aSession(2, 0, 6, 1, 4)}
	for _, c := range []struct {
		mark, gap int
		want      []impl.Session
	}{
		// To and gap together are just the mark, and one less.
		{11, 5, []impl.Session{list[1], list[3]}}, {10, 5, nil}, {12, 5, []impl.Session{list[1], list[3]}}, {24, 5, []impl.Session{list[1], list[3]}}, {25, 5, list[1:]}, {54, 5, list[1:]}, {55, 5, list},
		{6, 0, []impl.Session{list[1], list[3]}}, {5, 0, nil}, {noMark, 0, nil}, {0, 0, nil}, {impl.MaxTime, 0, list},
		{impl.MaxTime, impl.MaxTime, nil}, {impl.MaxTime + 5, impl.MaxTime, nil}, {impl.MaxTime + 6, impl.MaxTime, []impl.Session{list[1], list[3]}},
		{impl.MaxTime, impl.MaxTime - 20, list[1:]}, {impl.MaxTime, impl.MaxTime - 19, []impl.Session{list[1], list[3]}},
		// A mark may be any number.
		{math.MaxInt, impl.MaxTime, list}, {math.MinInt, impl.MaxTime, nil}, {math.MinInt, 0, nil}, {-2, 0, nil},
	} {
		given := append(make([]impl.Session, 0, len(list)+3), list...)
		got := impl.ClosedSessions(given, c.mark, c.gap)
		checkSessions(t, fmt.Sprintf("closed at %d with gap %d", c.mark, c.gap), got, c.want...)
		checkSessionsKept(t, given, list, got)
	}
	checkSessions(t, "none", impl.ClosedSessions(nil, 100, 5))
	for _, gap := range noTimes() {
		checkSessions(t, "gap", impl.ClosedSessions(list, impl.MaxTime, gap))
		checkSessions(t, "gap", impl.ClosedSessions(list, math.MaxInt, gap))
	}
}

// Their order is as it was, and what stands in the list is asked for its To alone.
func TestClosedSessionsOfAnyList(t *testing.T) {
	early, late := aSession(9, 3, 6, 2, 3), aSession(1, 20, 30, 1, 4)
	checkSessions(t, "out of order", impl.ClosedSessions([]impl.Session{late, early, early}, 11, 5), early, early)
	checkSessions(t, "all", impl.ClosedSessions([]impl.Session{late, early}, 35, 5), late, early)
	for _, c := range []struct {
		to, mark, gap int
		want          bool
	}{
		{math.MaxInt, math.MaxInt, 0, true}, {math.MaxInt, math.MaxInt, 1, false}, {math.MaxInt - 5, math.MaxInt, 5, true}, {math.MaxInt - 5, math.MaxInt, 6, false}, {math.MaxInt, 100, 5, false},
		{math.MaxInt, math.MinInt, impl.MaxTime, false}, {math.MinInt, math.MinInt, 0, true}, {math.MinInt, math.MinInt, 1, false}, {math.MinInt, math.MinInt + 1, 1, true}, {math.MinInt, math.MaxInt, 5, true},
		{-5, 0, 5, true}, {-5, -1, 5, false},
	} {
		s := impl.Session{To: c.to}
		if got := impl.ClosedSessions([]impl.Session{s}, c.mark, c.gap); (len(got) == 1) != c.want || c.want && got[0] != s {
			t.Errorf("ClosedSessions of %d with gap %d at %d: %v", c.to, c.gap, c.mark, got)
		}
	}
	if got := impl.ClosedSessions(farSessions(impl.MaxSessions), impl.MaxTime, 9); len(got) != impl.MaxSessions {
		t.Errorf("of MaxSessions %d are closed", len(got))
	}
	for _, n := range []int{impl.MaxSessions + 1, impl.MaxList} {
		checkSessions(t, "too many", impl.ClosedSessions(farSessions(n), impl.MaxTime, 9))
	}
}

// Once closed, nothing that is behind the mark joins a session any more.
func TestClosedSessionsStayClosed(t *testing.T) {
	for seed := range 40 {
		list := someEvents(seed, 30)
		for _, gap := range []int{0, 1, 2, 5} {
			sessions := impl.SessionsOf(list, gap)
			for at := noMark; at < 70; at++ {
				closed := impl.ClosedSessions(sessions, at, gap)
				for key := range 4 {
					next, ok := impl.AddToSessions(sessions, event(key, at+1, 1), gap)
					for _, s := range closed {
						if !ok || !slices.Contains(next, s) {
							t.Fatalf("at %d with gap %d %v joins %s", at, gap, s, sessionsText(next))
						}
					}
				}
			}
		}
	}
}

func TestLongestSession(t *testing.T) {
	const last = impl.MaxTime
	short, long, longer := aSession(0, 50, 50, 9, 9), aSession(1, 3, 6, 2, 3), aSession(1, 20, 24, 1, 4)
	for _, c := range []struct {
		list []impl.Session
		want int
	}{
		{nil, -1}, {[]impl.Session{}, -1}, {[]impl.Session{short}, 0}, {[]impl.Session{short, long}, 1}, {[]impl.Session{long, short}, 0}, {[]impl.Session{short, long, longer, short}, 2},
		// The first of several, whatever their order.
		{[]impl.Session{short, short}, 0}, {[]impl.Session{short, long, long}, 1}, {[]impl.Session{longer, long, aSession(0, 0, 4, 7, 7), longer}, 0}, {[]impl.Session{short, aSession(9, last-3, last, 1, 1), long}, 1},
		{[]impl.Session{long, aSession(9, 0, last, 1, 1), aSession(9, 0, last-1, 1, 1), aSession(9, 1, last, 1, 1)}, 1},
	} {
		if got := impl.LongestSession(c.list); got != c.want {
			t.Errorf("LongestSession(%s) = %d, want %d", sessionsText(c.list), got, c.want)
		}
	}
	for _, s := range noSessions() {
		for _, list := range [][]impl.Session{{s}, {s, long}, {long, s}, {short, s, long}} {
			if got := impl.LongestSession(list); got != -1 {
				t.Errorf("LongestSession(%s) = %d", sessionsText(list), got)
			}
		}
	}
	many := farSessions(impl.MaxSessions)
	many[impl.MaxSessions-1].To++
	if got := impl.LongestSession(many); got != impl.MaxSessions-1 {
		t.Errorf("of MaxSessions the longest is %d", got)
	}
	if got := impl.LongestSession(farSessions(impl.MaxSessions + 1)); got != -1 {
		t.Errorf("of more than MaxSessions the longest is %d", got)
	}
}

func TestTopKeys(t *testing.T) {
	list := []impl.Agg{anAgg(0, 1, 1, 4), anAgg(0, 2, 0, 1, 0), anAgg(1, 1, 1, 2), anAgg(2, 1, 4)}
	checkPlaces(t, "two", impl.TopKeys(list, 2), 1, 2)
	checkPlaces(t, "one", impl.TopKeys(list, 1), 1)
	checkPlaces(t, "none", impl.TopKeys(list, 0))
	checkPlaces(t, "more than there are", impl.TopKeys(list, 3), 1, 2)
	checkPlaces(t, "far more", impl.TopKeys(list, math.MaxInt), 1, 2)
	checkPlaces(t, "of no list", impl.TopKeys(nil, 5))
	for _, n := range []int{-1, -2, math.MinInt} {
		checkPlaces(t, "below 0", impl.TopKeys(list, n))
		checkPlaces(t, "below 0", impl.TopKeys(nil, n))
	}
	// Of one count the least key, wherever it stands, and whatever the sums are.
	same := []impl.Agg{anAgg(9, 7, 100), anAgg(0, 3, 1, 1), anAgg(2, 9, 5), anAgg(1, 0, 1), anAgg(1, 9, 5), anAgg(5, 4, -1)}
	for n, want := range [][]int{nil, {3}, {3, 9}, {3, 9, 0}, {3, 9, 0, 4}, {3, 9, 0, 4, 7}, {3, 9, 0, 4, 7}} {
		checkPlaces(t, "of one count", impl.TopKeys(same, n), want...)
	}
	// Counts are held at their bound.
	most := []impl.Agg{{Key: 8, Count: impl.MaxSum}, {Win: 1, Key: 8, Count: 5}, {Key: 6, Count: impl.MaxSum}, {Key: 5, Count: impl.MaxSum - 1}}
	checkPlaces(t, "at the bound", impl.TopKeys(most, 5), 6, 8, 5)
	for _, bad := range badLists() {
		checkPlaces(t, "bad", impl.TopKeys(bad, 5))
		checkPlaces(t, "bad", impl.TopKeys(bad, 0))
	}
}

// Many keys come as their plain counts say.
func TestTopKeysOfMany(t *testing.T) {
	for seed := range 20 {
		next := stir(900 + seed)
		counts := map[int]int{}
		var list []impl.Agg
		for range 400 {
			a := impl.Agg{Win: next(9), Key: next(40), Count: 1 + next(3)}
			counts[a.Key] += a.Count
			list = append(list, a)
		}
		got := impl.TopKeys(list, 1000)
		if len(got) != len(counts) {
			t.Fatalf("%d of %d keys", len(got), len(counts))
		}
		for i := 1; i < len(got); i++ {
			a, b := got[i-1], got[i]
			if counts[a] < counts[b] || counts[a] == counts[b] && a >= b {
				t.Fatalf("%d with %d is ahead of %d with %d", a, counts[a], b, counts[b])
			}
		}
	}
}

// sums are of one key, one window behind the other from win on.
func sums(win int, key int, list ...int) []impl.Agg {
	var aggs []impl.Agg
	for i, x := range list {
		aggs = append(aggs, impl.Agg{Win: win + i, Key: key, Count: 1, Sum: x})
	}
	return aggs
}

func TestPeaks(t *testing.T) {
	const last = impl.MaxTime
	for _, c := range []struct {
		list []impl.Agg
		want []int
	}{
		{nil, nil}, {sums(0, 1, 5), []int{0}}, {sums(7, 1, 5), []int{7}}, {sums(last, 1, 5), []int{last}},
		// Beside no window: a sum of 0 or below is no peak.
		{sums(7, 1, 0), nil}, {sums(7, 1, -1), nil}, {sums(7, 1, 1), []int{7}}, {sums(0, 1, 0), nil}, {sums(last, 1, -5), nil},
		{sums(3, 1, 5, 3, 4), []int{3, 5}}, {sums(3, 1, 1, 2, 1), []int{4}}, {sums(3, 1, 1, 2, 3), []int{5}}, {sums(3, 1, 3, 2, 1), []int{3}}, {sums(3, 1, 2, 1, 3, 1, 2), []int{3, 5, 7}},
		// As great as the one beside is not greater.
		{sums(3, 1, 5, 5), nil}, {sums(3, 1, 5, 5, 6), []int{5}}, {sums(3, 1, 5, 5, 4), nil}, {sums(3, 1, 6, 5, 5), []int{3}},
		// Below 0 it is a peak only between two that are there, and less.
		{sums(3, 1, -5, -3, -4), []int{4}}, {sums(3, 1, -5, -3), nil}, {sums(3, 1, -3, -5), nil}, {sums(3, 1, -5, 0, -4), []int{4}}, {sums(3, 1, 0, -1, 0), nil}, {sums(3, 1, -1, 0), nil},
		// Windows that are not there lie between.
		{slices.Concat(sums(3, 1, 5), sums(5, 1, 6)), []int{3, 5}}, {slices.Concat(sums(3, 1, -5, -3), sums(6, 1, -4)), nil}, {slices.Concat(sums(0, 1, 5, 6), sums(9, 1, 2, 0, 1)), []int{1, 9, 11}},
		{slices.Concat(sums(3, 1, 1), sums(5, 1, 0)), []int{3}},
	} {
		checkPlaces(t, fmt.Sprintf("Peaks(%v, 1)", c.list), impl.Peaks(c.list, 1), c.want...)
		checkPlaces(t, "another key", impl.Peaks(c.list, 2))
	}
}

// Only the windows of the key are held against each other.
func TestPeaksOfTheirKey(t *testing.T) {
	list := []impl.Agg{{Win: 0, Key: 1, Count: 2, Sum: 5, Min: 1, Max: 4}, {Win: 0, Key: 2, Count: 3, Sum: 1, Max: 1}, {Win: 1, Key: 1, Count: 2, Sum: 3, Min: 1, Max: 2}, {Win: 2, Key: 1, Count: 1, Sum: 4, Min: 4, Max: 4}}
	checkPlaces(t, "key 1", impl.Peaks(list, 1), 0, 2)
	checkPlaces(t, "key 2", impl.Peaks(list, 2), 0)
	for _, key := range []int{0, 3, -1, impl.MaxKey + 1, math.MaxInt, math.MinInt} {
		checkPlaces(t, "no such key", impl.Peaks(list, key))
	}
	for seed := range 60 {
		next := stir(700 + seed)
		plain := map[[2]int]int{}
		var aggs []impl.Agg
		for win := range 30 {
			for key := range 3 {
				if next(3) > 0 {
					plain[[2]int{win, key}] = next(7) - 3
					aggs = append(aggs, sums(win, key, plain[[2]int{win, key}])...)
				}
			}
		}
		for key := range 3 {
			var want []int
			for win := range 30 {
				if x := plain[[2]int{win, key}]; x > plain[[2]int{win - 1, key}] && x > plain[[2]int{win + 1, key}] {
					if _, there := plain[[2]int{win, key}]; there {
						want = append(want, win)
					}
				}
			}
			checkPlaces(t, "peaks", impl.Peaks(aggs, key), want...)
		}
	}
}

func TestPeaksRefuse(t *testing.T) {
	one, two, three := anAgg(0, 5, 1), anAgg(1, 5, 9), anAgg(1, 6, 2)
	checkPlaces(t, "in order", impl.Peaks([]impl.Agg{one, two, three}, 5), 1)
	for _, list := range [][]impl.Agg{
		{two, one}, {one, three, two}, {three, two}, {one, one}, {one, two, two}, {one, two, three, three}, {one, two, anAgg(1, 5, 3)}, {two, three, one}, {anAgg(1, 9, 1), one, two},
		// Out of order are only those of another key.
		{one, anAgg(3, 7, 1), anAgg(2, 7, 1)}, {one, anAgg(3, 7, 1), anAgg(3, 6, 1)}, {one, anAgg(3, 7, 1), anAgg(3, 7, 1)},
	} {
		checkPlaces(t, "out of order", impl.Peaks(list, 5))
		checkPlaces(t, "out of order", impl.Peaks(list, 7))
	}
	for _, bad := range badLists() {
		for _, key := range []int{1, 4, 0} {
			checkPlaces(t, "bad", impl.Peaks(bad, key))
		}
	}
	// A list may be as long as it likes.
	long := sums(0, 5, slices.Repeat([]int{1, 2}, 1000)...)
	if got := impl.Peaks(long, 5); len(got) != 1000 || got[0] != 1 || got[999] != 1999 {
		t.Errorf("a long list has %d peaks", len(got))
	}
}

func TestOtherWindowsKeepTheirArguments(t *testing.T) {
	frames := append(make([]impl.Frame, 0, 9), event(9, 12, 1), mark(5), event(2, 12, 2), event(9, 3, 3))
	was := slices.Clone(frames[:cap(frames)])
	folded, sessions := impl.FoldSlides(frames, 10, 5), impl.SessionsOf(frames, 5)
	if !slices.Equal(frames[:cap(frames)], was) || len(folded) != 5 || len(sessions) != 3 {
		t.Errorf("%v was written into: %v, %v, %v", was, frames[:cap(frames)], folded, sessions)
	}
	given, kept := lentAggs(anAgg(3, 7, 4), anAgg(1, 5, 1), anAgg(2, 5, 9))
	checkPlaces(t, "keys", impl.TopKeys(given, 5), 5, 7)
	kept(t, "top keys", nil)
	given, kept = lentAggs(anAgg(1, 5, 1), anAgg(2, 5, 9), anAgg(3, 7, 4))
	checkPlaces(t, "wins", impl.Peaks(given, 5), 2)
	kept(t, "peaks", nil)
}
