package tests

import (
	"math"
	"slices"
	"testing"

	"loop.example/g00728/impl"
)

const (
	noMark  = -1
	notTold = -2
)

func someTimes() []int {
	return []int{0, 1, 2, 7, 10, 500000, impl.MaxTime - 2, impl.MaxTime - 1, impl.MaxTime}
}

func noTimes() []int {
	return []int{-1, -2, -impl.MaxTime, impl.MaxTime + 1, 2 * impl.MaxTime, impl.MaxTick, math.MaxInt, math.MaxInt - 1, math.MinInt, math.MinInt + 1}
}

func someMarks() []int { return append([]int{noMark}, someTimes()...) }

// noMarks leaves out -1, which is no time but a mark.
func noMarks() []int { return noTimes()[1:] }

// eachSource goes through sources of all marks, at both ends of the clock, idle or not, open or not.
func eachSource(do func(s impl.Source)) {
	for _, most := range someMarks() {
		for _, mark := range someMarks() {
			for _, seen := range []int{0, 1, 50, impl.MaxTick - 1, impl.MaxTick} {
				for flags := range 4 {
					do(impl.Source{Max: most, Mark: mark, Seen: seen, Idle: flags&1 == 1, Open: flags&2 == 2})
				}
			}
		}
	}
}

// noSources are open and closed, idle and not: no flag may turn one into a Source.
func noSources() []impl.Source {
	var list []impl.Source
	for flags := range 4 {
		flagged := impl.Source{Max: 9, Mark: 6, Seen: 5, Idle: flags&1 == 1, Open: flags&2 == 2}
		for _, x := range noMarks() {
			s := flagged
			s.Max = x
			list = append(list, s)
			s = flagged
			s.Mark = x
			list = append(list, s)
		}
		for _, x := range noTicks() {
			s := flagged
			s.Seen = x
			list = append(list, s)
		}
	}
	return list
}

func aSource(mark int) impl.Source { return impl.Source{Max: mark, Mark: mark, Open: true} }

func anIdleSource(mark int) impl.Source {
	s := aSource(mark)
	s.Idle = true
	return s
}

func aClosedSource(mark int) impl.Source {
	s := aSource(mark)
	s.Open = false
	return s
}

func TestSourceOk(t *testing.T) {
	eachSource(func(s impl.Source) {
		if !impl.SourceOk(s) {
			t.Errorf("SourceOk(%v) is false", s)
		}
	})
	for _, s := range noSources() {
		if impl.SourceOk(s) {
			t.Errorf("SourceOk(%v) is true", s)
		}
	}
}

func TestNewSource(t *testing.T) {
	for _, now := range someTicks() {
		want := impl.Source{Max: -1, Mark: -1, Seen: now, Open: true}
		if s, ok := impl.NewSource(now); !ok || s != want {
			t.Errorf("NewSource(%d) = %v, %t", now, s, ok)
		}
	}
	for _, now := range noTicks() {
		if s, ok := impl.NewSource(now); ok || s != (impl.Source{}) {
			t.Errorf("NewSource(%d) = %v, %t", now, s, ok)
		}
	}
}

func TestSeeEventOf(t *testing.T) {
	const last = impl.MaxTime
	for _, c := range []struct {
		most, mark      int
		late, time      int
		newMax, newMark int
	}{
		{-1, -1, 2, 10, 10, 7}, {10, 7, 2, 8, 10, 7}, {10, 7, 2, 11, 11, 8}, {10, 7, 2, 10, 10, 7},
		{-1, -1, 0, 0, 0, -1}, {-1, -1, 0, 1, 1, 0}, {-1, -1, 2, 0, 0, -1}, {-1, -1, 2, 2, 2, -1}, {-1, -1, 2, 3, 3, 0},
		{-1, -1, 0, last, last, last - 1}, {-1, -1, last, last, last, -1}, {-1, -1, last - 1, last, last, 0},
		{last, last, 0, 0, last, last}, {last, last, last, last, last, last}, {last, -1, last, 0, last, -1},
		// A mark that a punctuation raised is kept.
		{10, 20, 2, 11, 11, 20}, {10, 20, 0, 21, 21, 20}, {10, 20, 0, 22, 22, 21}, {-1, 20, 2, 5, 5, 20},
		// The greatest time counts, also when it is not that of the event, and the lateness is another one.
		{10, 7, 1, 3, 10, 8}, {10, -1, 2, 3, 10, 7}, {10, 7, 5, 3, 10, 7}, {10, -1, 0, 0, 10, 9},
	} {
		for _, idle := range []bool{false, true} {
			s := impl.Source{Max: c.most, Mark: c.mark, Seen: 4, Idle: idle, Open: true}
			want := impl.Source{Max: c.newMax, Mark: c.newMark, Seen: 6, Open: true}
			if got, ok := impl.SeeEvent(s, c.late, c.time, 6); !ok || got != want {
				t.Errorf("SeeEvent(%v, %d, %d, 6) = %v, %t, want %v", s, c.late, c.time, got, ok, want)
			}
		}
	}
}

func TestSeeEventOfEachSource(t *testing.T) {
	eachSource(func(s impl.Source) {
		for _, late := range someTimes() {
			for _, time := range someTimes() {
				for _, now := range []int{0, 1, 49, 50, impl.MaxTick - 1, impl.MaxTick} {
					want := s
					wantOk := s.Open && now >= s.Seen
					if wantOk {
						want = impl.Source{Max: max(s.Max, time), Seen: now, Open: true}
						want.Mark = max(s.Mark, want.Max-late-1)
					}
					if got, ok := impl.SeeEvent(s, late, time, now); ok != wantOk || got != want {
						t.Fatalf("SeeEvent(%v, %d, %d, %d) = %v, %t, want %v", s, late, time, now, got, ok, want)
					}
				}
			}
		}
	})
}

func TestSeeMark(t *testing.T) {
	eachSource(func(s impl.Source) {
		for _, time := range someTimes() {
			for _, now := range []int{0, 1, 49, 50, 51, impl.MaxTick - 1, impl.MaxTick} {
				want := s
				wantOk := s.Open && now >= s.Seen
				if wantOk {
					want = impl.Source{Max: s.Max, Mark: max(s.Mark, time), Seen: now, Open: true}
				}
				if got, ok := impl.SeeMark(s, time, now); ok != wantOk || got != want {
					t.Fatalf("SeeMark(%v, %d, %d) = %v, %t, want %v", s, time, now, got, ok, want)
				}
			}
		}
	})
}

func TestSeeEventAndSeeMarkRefuse(t *testing.T) {
	refused := func(s impl.Source, late int, time int, now int) {
		t.Helper()
		if got, ok := impl.SeeEvent(s, late, time, now); ok || got != s {
			t.Errorf("SeeEvent(%v, %d, %d, %d) = %v, %t", s, late, time, now, got, ok)
		}
		// A mark has no lateness that could be refused.
		if late != 2 {
			return
		}
		if got, ok := impl.SeeMark(s, time, now); ok || got != s {
			t.Errorf("SeeMark(%v, %d, %d) = %v, %t", s, time, now, got, ok)
		}
	}
	for _, s := range noSources() {
		for _, now := range []int{5, 6, impl.MaxTick} {
			refused(s, 2, 7, now)
		}
	}
	for _, s := range []impl.Source{
		{Max: 9, Mark: 6, Seen: 5, Open: true}, {Max: 9, Mark: 6, Seen: 5, Idle: true, Open: true}, {Max: -1, Mark: -1, Open: true},
	} {
		for _, x := range noTimes() {
			refused(s, x, 12, 5)
			refused(s, 2, x, 5)
			refused(s, x, x, 5)
		}
		for _, now := range noTicks() {
			refused(s, 2, 12, now)
		}
	}
	for _, now := range []int{0, 1, 4} {
		refused(impl.Source{Max: 9, Mark: 6, Seen: 5, Open: true}, 2, 12, now)
		refused(impl.Source{Max: 9, Mark: 6, Seen: 5, Idle: true, Open: true}, 2, 12, now)
	}
	refused(impl.Source{Max: 9, Mark: 6, Seen: impl.MaxTick, Open: true}, 2, 12, impl.MaxTick-1)
	refused(impl.Source{Max: 9, Mark: 6, Seen: impl.MaxTick, Open: true}, 2, 12, impl.MaxTick+1)
	refused(aClosedSource(6), 2, 12, 5)
	refused(impl.Source{}, 2, 12, 5)
}

func TestSeeTickAtTheDeadline(t *testing.T) {
	const last = impl.MaxTick
	for _, c := range []struct {
		seen, after, now int
		want             bool
	}{
		{3, 5, 7, false}, {3, 5, 8, true}, {3, 5, 9, true}, {3, 5, 3, false}, {3, 5, 0, false},
		{0, 1, 0, false}, {0, 1, 1, true}, {3, 0, 3, false}, {3, 0, last, false}, {0, 0, 0, false},
		{0, last, last - 1, false}, {0, last, last, true}, {last, 1, last, true}, {last - 1, 5, last, true},
		{last, 1, last - 1, false}, {last, 0, last, false}, {last, last, last, true}, {last, last, 0, false},
	} {
		s := impl.Source{Max: 9, Mark: 6, Seen: c.seen, Open: true}
		want := s
		want.Idle = c.want
		if got, ok := impl.SeeTick(s, c.after, c.now); ok != c.want || got != want {
			t.Errorf("SeeTick(%v, %d, %d) = %v, %t", s, c.after, c.now, got, ok)
		}
	}
}

func TestSeeTickOfEachSource(t *testing.T) {
	afters := []int{0, 1, 5, 49, 50, impl.MaxTick - 1, impl.MaxTick}
	eachSource(func(s impl.Source) {
		for _, after := range afters {
			for _, now := range []int{0, 1, 2, 50, 55, 100, impl.MaxTick - 1, impl.MaxTick} {
				becomesIdle := s.Open && !s.Idle && impl.DueAt(s.Seen, after, now)
				want := s
				want.Idle = s.Idle || becomesIdle
				if got, ok := impl.SeeTick(s, after, now); ok != becomesIdle || got != want {
					t.Fatalf("SeeTick(%v, %d, %d) = %v, %t, want %v", s, after, now, got, ok, want)
				}
			}
		}
	})
}

func TestSeeTickRefuses(t *testing.T) {
	refused := func(s impl.Source, after int, now int) {
		t.Helper()
		if got, ok := impl.SeeTick(s, after, now); ok || got != s {
			t.Errorf("SeeTick(%v, %d, %d) = %v, %t", s, after, now, got, ok)
		}
	}
	for _, s := range noSources() {
		refused(s, 5, 100)
		refused(s, 1, impl.MaxTick)
		refused(s, 0, 100)
	}
	for _, s := range []impl.Source{{Max: 9, Mark: 6, Seen: 5, Open: true}, anIdleSource(6), aClosedSource(6), {}} {
		for _, x := range noTicks() {
			refused(s, x, impl.MaxTick)
			refused(s, 1, x)
			refused(s, x, x)
		}
	}
}

func TestCloseSource(t *testing.T) {
	eachSource(func(s impl.Source) {
		want := s
		if s.Open {
			want.Open = false
			want.Idle = false
		}
		got, ok := impl.CloseSource(s)
		if ok != s.Open || got != want {
			t.Errorf("CloseSource(%v) = %v, %t", s, got, ok)
		}
		if again, ok := impl.CloseSource(got); ok || again != got {
			t.Errorf("CloseSource(%v) = %v, %t", got, again, ok)
		}
	})
	for _, s := range noSources() {
		if got, ok := impl.CloseSource(s); ok || got != s {
			t.Errorf("CloseSource(%v) = %v, %t", s, got, ok)
		}
	}
}

func checkAll(t *testing.T, want int, last int, list ...impl.Source) {
	t.Helper()
	given := slices.Clone(list)
	for range 2 {
		if got := impl.AllMarks(list, last); got != want {
			t.Errorf("AllMarks(%v, %d) = %d, want %d", list, last, got, want)
		}
		// The order of the sources says nothing.
		slices.Reverse(list)
	}
	if !slices.Equal(list, given) {
		t.Errorf("AllMarks wrote into %v", given)
	}
}

func TestAllMarks(t *testing.T) {
	const last = impl.MaxTime
	checkAll(t, 3, -1, aSource(7), aSource(3))
	checkAll(t, 3, 2, aSource(7), aSource(3), aSource(5))
	checkAll(t, 3, 3, aSource(7), aSource(3))
	checkAll(t, 3, 2, aSource(3), aSource(3))
	checkAll(t, 7, -1, aSource(7), anIdleSource(3))
	checkAll(t, 7, -1, aSource(7), aClosedSource(3))
	checkAll(t, 7, -1, aSource(7), anIdleSource(-1), aClosedSource(-1))
	checkAll(t, 3, -1, aSource(3), anIdleSource(9), aClosedSource(9))
	// One that has said nothing holds the mark of all.
	checkAll(t, -1, -1, aSource(-1))
	checkAll(t, -1, -1, aSource(7), aSource(-1))
	checkAll(t, -1, -1, aSource(last), aSource(-1), aSource(last))
	checkAll(t, 4, 4, aSource(7), aSource(-1))
	checkAll(t, 0, -1, aSource(0))
	checkAll(t, 0, -1, aSource(0), aSource(last))
	checkAll(t, last, -1, aSource(last))
	checkAll(t, last, -1, aSource(last), aSource(last))
	checkAll(t, last-1, -1, aSource(last), aSource(last-1))
	// A last that is above the least mark stays.
	checkAll(t, 5, 5, aSource(7), aSource(3))
	checkAll(t, 9, 9, aSource(7), aSource(3))
	checkAll(t, last, last, aSource(7), aSource(3))
	checkAll(t, last, last, aSource(last), aSource(last-1))
	checkAll(t, last, last, aSource(-1))
}

func TestAllMarksWithNoneActive(t *testing.T) {
	for _, last := range someMarks() {
		checkAll(t, last, last)
		checkAll(t, last, last, anIdleSource(3))
		checkAll(t, last, last, anIdleSource(impl.MaxTime), anIdleSource(-1))
		checkAll(t, last, last, aClosedSource(3))
		checkAll(t, last, last, aClosedSource(impl.MaxTime), aClosedSource(-1))
		checkAll(t, last, last, aClosedSource(impl.MaxTime), anIdleSource(impl.MaxTime))
		// Idle and closed at once is active no more than either of both.
		checkAll(t, last, last, impl.Source{Max: 9, Mark: impl.MaxTime, Idle: true})
	}
}

// TestAllMarksOfFew goes through all lists of up to three of some sources.
func TestAllMarksOfFew(t *testing.T) {
	var some []impl.Source
	for _, m := range []int{-1, 0, 5, impl.MaxTime} {
		some = append(some, aSource(m), anIdleSource(m), aClosedSource(m))
	}
	leastOf := func(list []impl.Source, last int) int {
		least := impl.MaxTime + 1
		for _, s := range list {
			if s.Open && !s.Idle && s.Mark < least {
				least = s.Mark
			}
		}
		if least > impl.MaxTime || least < last {
			return last
		}
		return least
	}
	for _, last := range []int{-1, 0, 4, 5, 6, impl.MaxTime} {
		for _, a := range some {
			checkAll(t, leastOf([]impl.Source{a}, last), last, a)
			for _, b := range some {
				for _, c := range some {
					checkAll(t, leastOf([]impl.Source{a, b, c}, last), last, a, b, c)
				}
			}
		}
	}
}

func TestAllMarksOfMany(t *testing.T) {
	var list []impl.Source
	for i := range impl.MaxList {
		list = append(list, aSource(1000+(i*7)%impl.MaxList))
	}
	checkAll(t, 1000, -1, list...)
	for _, place := range []int{0, 1, 150, impl.MaxList - 1} {
		some := slices.Clone(list)
		some[place].Mark = 12
		checkAll(t, 12, -1, some...)
		some[place].Idle = true
		checkAll(t, impl.AllMarks(slices.Delete(slices.Clone(list), place, place+1), -1), -1, some...)
	}
	checkAll(t, notTold, -1, append(slices.Clone(list), aSource(2000))...)
	checkAll(t, notTold, 5, append(slices.Clone(list), aClosedSource(2000))...)
	checkAll(t, 7, 7, slices.Repeat([]impl.Source{aClosedSource(9)}, impl.MaxList)...)
	checkAll(t, notTold, 7, slices.Repeat([]impl.Source{aClosedSource(9)}, impl.MaxList+1)...)
	checkAll(t, notTold, 7, make([]impl.Source, 4*impl.MaxList)...)
}

func TestAllMarksRefuses(t *testing.T) {
	for _, last := range noMarks() {
		checkAll(t, notTold, last)
		checkAll(t, notTold, last, aSource(5))
		checkAll(t, notTold, last, anIdleSource(5), aClosedSource(5))
		checkAll(t, notTold, last, noSources()...)
	}
	for _, s := range noSources() {
		checkAll(t, notTold, -1, s)
		checkAll(t, notTold, impl.MaxTime, s)
		checkAll(t, notTold, 4, aSource(5), s, aSource(9))
		checkAll(t, notTold, 4, anIdleSource(5), s)
	}
	checkAll(t, notTold, -1, append(slices.Repeat([]impl.Source{aSource(5)}, impl.MaxList-1), impl.Source{Max: -2, Open: true})...)
}

// A source that closes or falls silent while it holds the mark lets go of it at once, and the mark
// stays where it came to when one comes that is behind.
func TestAllMarksGoOn(t *testing.T) {
	slow, _ := impl.NewSource(0)
	slow, _ = impl.SeeEvent(slow, 2, 10, 1)
	fast, _ := impl.NewSource(0)
	fast, _ = impl.SeeEvent(fast, 2, 30, 4)
	last := impl.AllMarks([]impl.Source{slow, fast}, -1)
	if last != 7 {
		t.Errorf("two sources: %d", last)
	}
	closed, _ := impl.CloseSource(slow)
	checkAll(t, 27, last, closed, fast)
	waits, became := impl.SeeTick(slow, 5, 5)
	checkAll(t, 7, last, waits, fast)
	idle, becameLater := impl.SeeTick(slow, 5, 6)
	if became || !becameLater {
		t.Errorf("idle behind 4 ticks: %t, behind 5: %t", became, becameLater)
	}
	checkAll(t, 27, last, idle, fast)
	back, ok := impl.SeeEvent(idle, 2, 11, 7)
	if !ok || back.Idle || back.Mark != 8 {
		t.Errorf("the source that came back: %v, %t", back, ok)
	}
	checkAll(t, 8, last, back, fast)
	checkAll(t, 27, 27, back, fast)
	fastClosed, _ := impl.CloseSource(fast)
	checkAll(t, 27, 27, closed, fastClosed)
	checkAll(t, 27, 27, idle, fastClosed)
	fresh, _ := impl.NewSource(9)
	checkAll(t, 27, 27, fresh)
}

func checkSource(t *testing.T, late int, after int, events [][]int, want impl.Source, wantTold ...int) {
	t.Helper()
	var given [][]int
	for _, said := range events {
		given = append(given, slices.Clone(said))
	}
	s, told := impl.PlaySource(late, after, events)
	if s != want || !slices.Equal(told, wantTold) {
		t.Errorf("PlaySource(%d, %d, %v) = %v, %v, want %v, %v", late, after, events, s, told, want, wantTold)
	}
	for i, said := range events {
		if !slices.Equal(said, given[i]) {
			t.Errorf("PlaySource wrote into %v", given[i])
		}
	}
}

func TestPlaySource(t *testing.T) {
	const last, top = impl.MaxTime, impl.MaxTick
	fresh := impl.Source{Max: -1, Mark: -1, Open: true}
	checkSource(t, 2, 5, nil, fresh)
	checkSource(t, 2, 5, [][]int{{0, 10, 1}, {0, 8, 2}, {1, 9, 3}, {2, 0, 7}, {2, 0, 8}, {0, 20, 8}, {3, 0, 0}, {0, 30, 9}, {0, 1}},
		impl.Source{Max: 20, Mark: 17, Seen: 8}, 7, 7, 9, -2, 9, 17, 17, -2, -2)
	// Once idle, a tick tells nothing new, whether it is due or not; what comes wakes it.
	checkSource(t, 0, 5, [][]int{{1, 4, 2}, {2, 0, 7}, {2, 0, 8}, {2, 0, 3}, {2, 0, 9}, {1, 3, 9}, {2, 0, 13}, {2, 0, 14}},
		impl.Source{Max: -1, Mark: 4, Seen: 9, Idle: true, Open: true}, 4, 4, -2, -2, -2, 4, -2, 4)
	checkSource(t, 0, 5, [][]int{{2, 0, 5}, {0, 6, 5}}, impl.Source{Max: 6, Mark: 5, Seen: 5, Open: true}, -1, 5)
	checkSource(t, 0, 5, [][]int{{2, 0, 5}, {3, 0, 5}, {2, 0, 9}, {1, 5, 9}, {3, 0, 9}}, impl.Source{Max: -1, Mark: -1}, -1, -1, -2, -2, -2)
	checkSource(t, 0, 0, [][]int{{2, 0, 5}, {2, 0, top}, {0, 3, top}, {2, 0, top}}, impl.Source{Max: 3, Mark: 2, Seen: top, Open: true}, -2, -2, 2, -2)
	checkSource(t, 0, top, [][]int{{2, 0, top - 1}, {2, 0, top}}, impl.Source{Max: -1, Mark: -1, Idle: true, Open: true}, -2, -1)
	checkSource(t, 0, 1, [][]int{{1, 0, top}, {2, 0, top}}, impl.Source{Max: -1, Mark: 0, Seen: top, Idle: true, Open: true}, 0, 0)
	checkSource(t, 0, 1, [][]int{{0, 0, 0}, {0, last, 0}, {1, last, 0}, {1, 0, 0}}, impl.Source{Max: last, Mark: last, Open: true}, -1, last-1, last, last)
	checkSource(t, last, 1, [][]int{{0, 0, 0}, {0, last, 0}, {1, 0, 0}}, impl.Source{Max: last, Mark: 0, Open: true}, -1, -1, 0)
	// A tick has no time, and a close has neither time nor tick: their other numbers may be any.
	checkSource(t, 0, 5, [][]int{{2, -7, 5}}, impl.Source{Max: -1, Mark: -1, Idle: true, Open: true}, -1)
	checkSource(t, 0, 5, [][]int{{2, math.MaxInt, 5}}, impl.Source{Max: -1, Mark: -1, Idle: true, Open: true}, -1)
	checkSource(t, 0, 5, [][]int{{1, 6, 5}, {3, -7, -7}}, impl.Source{Max: -1, Mark: 6, Seen: 5}, 6, 6)
	checkSource(t, 0, 5, [][]int{{1, 6, 5}, {3, math.MaxInt, math.MinInt}}, impl.Source{Max: -1, Mark: 6, Seen: 5}, 6, 6)
}

func TestPlaySourceRefusesEvents(t *testing.T) {
	after := impl.Source{Max: 10, Mark: 7, Seen: 4, Open: true}
	refused := [][]int{
		nil, {}, {0}, {3}, {0, 12}, {3, 0}, {0, 12, 5, 0}, {3, 0, 5, 0}, {2, 0, 50, 0}, {1, 12, 5, 5, 5},
		{4, 12, 5}, {-1, 12, 5}, {5, 0, 9}, {256, 12, 5}, {1 << 32, 12, 5}, {math.MaxInt, 12, 5}, {math.MinInt, 12, 5},
		{0, 12, 3}, {1, 12, 3}, {0, 12, 0}, {1, 12, 0}, {2, 0, 3}, {2, 0, 8},
	}
	for _, x := range noTimes() {
		refused = append(refused, []int{0, x, 5}, []int{1, x, 5})
	}
	for _, x := range noTicks() {
		refused = append(refused, []int{0, 12, x}, []int{1, 12, x}, []int{2, 0, x})
	}
	for _, said := range refused {
		checkSource(t, 2, 5, [][]int{{0, 10, 4}, said}, after, 7, -2)
	}
	// A lateness out of its bounds refuses events alone, and a span out of its bounds ticks alone.
	for _, x := range noTimes() {
		checkSource(t, x, 5, [][]int{{0, 10, 1}, {1, 3, 2}, {2, 0, 7}, {3, 0, 0}}, impl.Source{Max: -1, Mark: 3, Seen: 2}, -2, 3, 3, 3)
	}
	for _, x := range noTicks() {
		checkSource(t, 2, x, [][]int{{0, 10, 1}, {1, 8, 2}, {2, 0, impl.MaxTick}, {3, 0, 0}}, impl.Source{Max: 10, Mark: 8, Seen: 2}, 7, 8, -2, 8)
	}
}

func TestPlaySourceOfMany(t *testing.T) {
	marksTo := func(n int) ([][]int, []int) {
		var events [][]int
		var told []int
		for i := range n {
			events = append(events, []int{1, 10 + i, i})
			told = append(told, 10+i)
		}
		return events, told
	}
	events, told := marksTo(impl.MaxList)
	checkSource(t, 2, 5, events, impl.Source{Max: -1, Mark: 9 + impl.MaxList, Seen: impl.MaxList - 1, Open: true}, told...)
	events, _ = marksTo(impl.MaxList + 1)
	checkSource(t, 2, 5, events, impl.Source{})
	events, _ = marksTo(4 * impl.MaxList)
	checkSource(t, 2, 5, events, impl.Source{})
	checkSource(t, 2, 5, make([][]int, impl.MaxList), impl.Source{Max: -1, Mark: -1, Open: true}, repeated(notTold, impl.MaxList)...)
	checkSource(t, -1, -1, make([][]int, impl.MaxList+1), impl.Source{})
}

// stir tells numbers that look like chance and are the same each time.
func stir(seed int) func(below int) int {
	return func(below int) int {
		seed = (seed*1103515245 + 12345) % (1 << 31)
		return (seed >> 8) % below
	}
}

// Whatever comes, the marks of each source and that of all never fall, and the mark of all goes as
// far as the slowest active source, no less and no further.
func TestMarksNeverFall(t *testing.T) {
	for seed := range 200 {
		next := stir(seed)
		sources := make([]impl.Source, 4)
		for i := range sources {
			sources[i], _ = impl.NewSource(next(3))
		}
		all, moved := noMark, 0
		for range 200 {
			i := next(len(sources))
			was := sources[i]
			now := was.Seen + next(8) - 1
			switch next(12) {
			case 0:
				sources[i], _ = impl.CloseSource(was)
			case 1, 2, 3:
				sources[i], _ = impl.SeeTick(was, next(6), now)
			case 4, 5, 6:
				sources[i], _ = impl.SeeMark(was, max(was.Mark, 0)+next(40)-20, now)
			default:
				sources[i], _ = impl.SeeEvent(was, next(10)-1, max(was.Max, 0)+next(40)-10, now)
			}
			if next(40) == 0 {
				sources[i], _ = impl.NewSource(next(9))
			} else if sources[i].Mark < was.Mark || sources[i].Max < was.Max || sources[i].Seen < was.Seen {
				t.Fatalf("seed %d: %v became %v", seed, was, sources[i])
			}
			got := impl.AllMarks(sources, all)
			if got < all {
				t.Fatalf("seed %d: the mark of all fell from %d to %d", seed, all, got)
			}
			slowest := impl.MaxTime + 1
			for _, s := range sources {
				if s.Open && !s.Idle {
					slowest = min(slowest, s.Mark)
				}
			}
			if slowest <= impl.MaxTime && got != max(slowest, all) || slowest > impl.MaxTime && got != all {
				t.Fatalf("seed %d: the mark of all went from %d to %d with %v", seed, all, got, sources)
			}
			if got > all {
				moved++
			}
			all = got
		}
		if moved == 0 {
			t.Errorf("seed %d: the mark of all never moved", seed)
		}
	}
}

// A silent source holds the mark of all until the ticks since it was seen are as many as it may be
// silent for, and not one tick longer; when it may be so for ever, it holds the mark for ever.
func TestNoSilentSourceHoldsTheMarkForLonger(t *testing.T) {
	for after := range 30 {
		silent, _ := impl.NewSource(3)
		silent, _ = impl.SeeEvent(silent, 0, 5, 7)
		busy, _ := impl.NewSource(3)
		all := noMark
		for now := 8; now < 60; now++ {
			busy, _ = impl.SeeEvent(busy, 0, now*10, now)
			silent, _ = impl.SeeTick(silent, after, now)
			busy, _ = impl.SeeTick(busy, after, now)
			all = impl.AllMarks([]impl.Source{silent, busy}, all)
			want := 4
			if after > 0 && now >= 7+after {
				want = now*10 - 1
			}
			if all != want {
				t.Fatalf("idle after %d: the mark at %d is %d, want %d", after, now, all, want)
			}
		}
	}
}

func TestIsLateFor(t *testing.T) {
	if !impl.IsLateFor(3, 3) || impl.IsLateFor(3, 4) || !impl.IsLateFor(3, 2) {
		t.Error("IsLateFor around 3")
	}
	numbers := slices.Concat(someMarks(), noMarks())
	for _, m := range numbers {
		for _, time := range numbers {
			if got := impl.IsLateFor(m, time); got != (time <= m) {
				t.Errorf("IsLateFor(%d, %d) is %t", m, time, got)
			}
		}
	}
	for _, time := range someTimes() {
		if impl.IsLateFor(noMark, time) || !impl.IsLateFor(impl.MaxTime, time) {
			t.Errorf("IsLateFor of %d at the ends of marks", time)
		}
	}
}
