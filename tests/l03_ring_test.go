package tests

import (
	"math"
	"slices"
	"testing"

	"loop.example/g00728/impl"
)

// aRing is a ring of n slots in which the list stands from head on.
func aRing(n int, head int, list ...int) impl.Ring {
	r := impl.Ring{Slots: make([]int, n), Head: head, Count: len(list)}
	place := head
	for _, x := range list {
		r.Slots[place] = x
		place++
		if place == n {
			place = 0
		}
	}
	return r
}

// numbered is a list of n numbers, no two alike and none 0.
func numbered(n int) []int {
	var list []int
	for i := range n {
		list = append(list, 100+i)
	}
	return list
}

func sameRing(a impl.Ring, b impl.Ring) bool {
	return slices.Equal(a.Slots, b.Slots) && a.Head == b.Head && a.Count == b.Count
}

// eachRing goes through all sizes, heads and counts.
func eachRing(do func(n int, head int, list []int)) {
	for n := 1; n <= impl.MaxCap; n++ {
		for head := range n {
			for count := range n + 1 {
				do(n, head, numbered(count))
			}
		}
	}
}

func noRings() []impl.Ring {
	list := []impl.Ring{
		{}, {Count: 1}, {Head: 1}, {Head: -1}, {Slots: []int{}}, {Slots: make([]int, impl.MaxCap+1)}, {Slots: make([]int, 500)},
		{Slots: numbered(impl.MaxCap + 1), Count: impl.MaxCap + 1}, {Slots: numbered(impl.MaxCap + 1), Count: impl.MaxCap},
		{Slots: []int{0}, Head: 1}, {Slots: []int{0}, Head: -1}, {Slots: []int{5}, Head: 1, Count: 1}, {Slots: []int{5}, Head: -1, Count: 1},
		{Slots: []int{0}, Count: 2}, {Slots: []int{5}, Count: 2}, {Slots: []int{0}, Count: -1}, {Slots: []int{5}, Count: -1}, {Slots: []int{5}},
		{Slots: []int{1, 2, 3}, Head: 3, Count: 3}, {Slots: []int{1, 2, 3}, Head: -3, Count: 3}, {Slots: []int{1, 2, 3}, Count: 4},
		{Slots: []int{1, 2, 3}, Head: 1, Count: 4}, {Slots: []int{0, 0, 0}, Head: 3}, {Slots: []int{0, 0, 0}, Head: 1, Count: -1},
		// A number where none stands: ahead of the first, behind the last, and where they go on at 0.
		{Slots: []int{7, 1, 0}, Head: 1, Count: 1}, {Slots: []int{0, 1, 7}, Head: 1, Count: 1}, {Slots: []int{1, 2, 7}, Count: 2},
		{Slots: []int{7, 0, 1}, Head: 2, Count: 1}, {Slots: []int{0, -7, 1}, Head: 2, Count: 1}, {Slots: []int{2, 7, 1}, Head: 2, Count: 2},
		{Slots: []int{0, 0, -1}}, {Slots: []int{0, 0, math.MinInt}, Head: 1},
		{Slots: append(make([]int, impl.MaxCap-1), 1)}, {Slots: append([]int{1}, make([]int, impl.MaxCap-1)...)},
	}
	for _, x := range []int{math.MaxInt, math.MinInt, math.MaxInt - 2, math.MinInt + 2} {
		list = append(list, impl.Ring{Slots: []int{1, 2, 3}, Head: x, Count: 3}, impl.Ring{Slots: []int{0, 0, 0}, Head: x},
			impl.Ring{Slots: []int{1, 2, 3}, Count: x}, impl.Ring{Slots: []int{0, 0, 0}, Head: x, Count: x}, impl.Ring{Head: x, Count: x})
	}
	return list
}

func noCaps() []int {
	return []int{0, -1, -2, impl.MaxCap + 1, 2 * impl.MaxCap, math.MaxInt, math.MinInt, 1 << 32, 1<<32 + 1}
}

// eachCredit goes through all that are a Credit.
func eachCredit(do func(c impl.Credit)) {
	for home := range impl.MaxCap + 1 {
		for out := range impl.MaxCap - home + 1 {
			do(impl.Credit{Home: home, Out: out})
		}
	}
}

func noCredits() []impl.Credit {
	const top = impl.MaxCap
	list := []impl.Credit{
		{Home: -1}, {Out: -1}, {Home: -1, Out: -1}, {Home: -1, Out: 1}, {Home: 1, Out: -1}, {Home: 5, Out: -1}, {Home: -1, Out: 5},
		{Home: top + 1}, {Out: top + 1}, {Home: top, Out: 1}, {Home: 1, Out: top}, {Home: top / 2, Out: top/2 + 1}, {Home: top / 2, Out: 11},
		{Home: top + 1, Out: -1}, {Home: -1, Out: top + 1}, {Home: top, Out: top},
	}
	for _, x := range []int{math.MaxInt, math.MinInt, 1 << 62, -1 << 62, 1 << 32} {
		list = append(list, impl.Credit{Home: x}, impl.Credit{Out: x}, impl.Credit{Home: x, Out: x}, impl.Credit{Home: x, Out: -x},
			impl.Credit{Home: 1, Out: x}, impl.Credit{Home: x, Out: 1}, impl.Credit{Home: math.MaxInt, Out: x}, impl.Credit{Home: x, Out: math.MaxInt})
	}
	return list
}

// playPlainly tells what PlayLink must tell, with a list that grows and shrinks in place of the ring.
func playPlainly(n int, ops []int) (impl.Ring, impl.Credit, []int) {
	var waiting, told []int
	gone := 0
	for _, op := range ops {
		switch {
		case op >= 0 && len(waiting) < n:
			waiting = append(waiting, op)
			told = append(told, 1)
		case op >= 0:
			told = append(told, 0)
		case len(waiting) > 0:
			told = append(told, waiting[0])
			waiting = waiting[1:]
			gone++
		default:
			told = append(told, -1)
		}
	}
	return aRing(n, gone%n, waiting...), impl.Credit{Home: n - len(waiting), Out: len(waiting)}, told
}

func checkPlay(t *testing.T, n int, ops []int) {
	t.Helper()
	before := slices.Clone(ops)
	r, c, told := impl.PlayLink(n, ops)
	wantRing, wantCredit, wantTold := playPlainly(n, ops)
	if !sameRing(r, wantRing) || c != wantCredit || !slices.Equal(told, wantTold) {
		t.Fatalf("PlayLink(%d, %v) = %v, %v, %v, want %v, %v, %v", n, ops, r, c, told, wantRing, wantCredit, wantTold)
	}
	if !impl.RingOk(r) || !impl.LinkOk(r, c) || c.Home+r.Count != n {
		t.Fatalf("PlayLink(%d, %v): the link of %v and %v is not ok", n, ops, r, c)
	}
	if !slices.Equal(ops, before) {
		t.Fatalf("PlayLink(%d) wrote into its ops", n)
	}
}

func TestRingLimits(t *testing.T) {
	if impl.MaxCap != 20 {
		t.Errorf("MaxCap %d", impl.MaxCap)
	}
}

func TestRingOk(t *testing.T) {
	eachRing(func(n int, head int, list []int) {
		if r := aRing(n, head, list...); !impl.RingOk(r) {
			t.Errorf("RingOk(%v) is false", r)
		}
		for i := len(list); i < n; i++ {
			r := aRing(n, head, list...)
			r.Slots[(head+i)%n] = 1 - 2*(i%2)
			if impl.RingOk(r) {
				t.Errorf("RingOk(%v) is true", r)
			}
		}
	})
	for _, r := range []impl.Ring{
		aRing(3, 1, 0, 0, 0), aRing(3, 2, 0), aRing(2, 1, -1, math.MinInt), aRing(2, 0, math.MaxInt), aRing(1, 0, 0),
	} {
		if !impl.RingOk(r) {
			t.Errorf("RingOk(%v) is false", r)
		}
	}
	for _, r := range noRings() {
		if impl.RingOk(r) {
			t.Errorf("RingOk(%v) is true", r)
		}
	}
}

func TestNewRing(t *testing.T) {
	for n := 1; n <= impl.MaxCap; n++ {
		if r, ok := impl.NewRing(n); !ok || !sameRing(r, impl.Ring{Slots: make([]int, n)}) {
			t.Errorf("NewRing(%d) = %v, %t", n, r, ok)
		}
	}
	for _, n := range noCaps() {
		if r, ok := impl.NewRing(n); ok || !sameRing(r, impl.Ring{}) {
			t.Errorf("NewRing(%d) = %v, %t", n, r, ok)
		}
	}
}

func TestPushRing(t *testing.T) {
	eachRing(func(n int, head int, list []int) {
		r := aRing(n, head, list...)
		for _, x := range []int{9, 0, -1, math.MaxInt, math.MinInt} {
			want := r
			if len(list) < n {
				want = aRing(n, head, append(slices.Clone(list), x)...)
			}
			if got, ok := impl.PushRing(r, x); ok != (len(list) < n) || !sameRing(got, want) {
				t.Errorf("PushRing(%v, %d) = %v, %t", r, x, got, ok)
			}
		}
	})
	for _, r := range noRings() {
		if got, ok := impl.PushRing(r, 5); ok || !sameRing(got, r) {
			t.Errorf("PushRing(%v, 5) = %v, %t", r, got, ok)
		}
	}
}

func TestPopRing(t *testing.T) {
	eachRing(func(n int, head int, list []int) {
		r := aRing(n, head, list...)
		got, x, ok := impl.PopRing(r)
		switch {
		case len(list) == 0 && (ok || x != 0 || !sameRing(got, r)):
			t.Errorf("PopRing(%v) = %v, %d, %t", r, got, x, ok)
		case len(list) > 0 && (!ok || x != list[0] || !sameRing(got, aRing(n, (head+1)%n, list[1:]...))):
			t.Errorf("PopRing(%v) = %v, %d, %t", r, got, x, ok)
		}
	})
	for _, first := range []int{0, -1, -5, math.MaxInt, math.MinInt} {
		if got, x, ok := impl.PopRing(aRing(2, 1, first, 4)); !ok || x != first || !sameRing(got, aRing(2, 0, 4)) {
			t.Errorf("PopRing with %d first = %v, %d, %t", first, got, x, ok)
		}
	}
	for _, r := range noRings() {
		if got, x, ok := impl.PopRing(r); ok || x != 0 || !sameRing(got, r) {
			t.Errorf("PopRing(%v) = %v, %d, %t", r, got, x, ok)
		}
	}
}

func TestListRing(t *testing.T) {
	eachRing(func(n int, head int, list []int) {
		if got := impl.ListRing(aRing(n, head, list...)); !slices.Equal(got, list) {
			t.Errorf("ListRing of %v from %d on in %d slots = %v", list, head, n, got)
		}
	})
	if got := impl.ListRing(aRing(4, 3, 0, -1, 0)); !slices.Equal(got, []int{0, -1, 0}) {
		t.Errorf("ListRing of noughts = %v", got)
	}
	for _, r := range noRings() {
		if got := impl.ListRing(r); len(got) != 0 {
			t.Errorf("ListRing(%v) = %v", r, got)
		}
	}
}

func TestGrowRing(t *testing.T) {
	eachRing(func(n int, head int, list []int) {
		r := aRing(n, head, list...)
		for size := 1; size <= impl.MaxCap; size++ {
			got, ok := impl.GrowRing(r, size)
			fits := size >= len(list)
			want := r
			if fits {
				want = aRing(size, 0, list...)
			}
			if ok != fits || !sameRing(got, want) {
				t.Errorf("GrowRing(%v, %d) = %v, %t", r, size, got, ok)
			}
		}
	})
	for _, r := range []impl.Ring{aRing(1, 0), aRing(1, 0, 5), aRing(3, 2, 5, 6), aRing(impl.MaxCap, 3, numbered(impl.MaxCap)...)} {
		for _, size := range noCaps() {
			if got, ok := impl.GrowRing(r, size); ok || !sameRing(got, r) {
				t.Errorf("GrowRing(%v, %d) = %v, %t", r, size, got, ok)
			}
		}
	}
	for _, r := range noRings() {
		for _, size := range []int{0, 1, 3, impl.MaxCap, impl.MaxCap + 1} {
			if got, ok := impl.GrowRing(r, size); ok || !sameRing(got, r) {
				t.Errorf("GrowRing(%v, %d) = %v, %t", r, size, got, ok)
			}
		}
	}
}

// What is pushed comes out in its order, however often the ring goes round, also when it grows or
// shrinks in between.
func TestWhatIsPushedComesOutInItsOrder(t *testing.T) {
	for n := 1; n <= impl.MaxCap; n++ {
		r, _ := impl.NewRing(n)
		pushed, popped := 0, 0
		for step := range 200 {
			if size := max(r.Count, step%(impl.MaxCap+1)); size > 0 && step%7 == 3 {
				r, _ = impl.GrowRing(r, size)
			}
			for range step%5 + 1 {
				var ok bool
				if r, ok = impl.PushRing(r, pushed); ok {
					pushed++
				}
			}
			for range (step*3+n)%5 + 1 {
				next, x, ok := impl.PopRing(r)
				if ok && x != popped {
					t.Fatalf("from %d slots on, step %d: %d came out, not %d", n, step, x, popped)
				}
				if ok {
					popped++
				}
				r = next
			}
			if !impl.RingOk(r) || r.Count != pushed-popped {
				t.Fatalf("from %d slots on, step %d: %v with %d pushed and %d popped", n, step, r, pushed, popped)
			}
		}
		if popped < 3*impl.MaxCap {
			t.Errorf("from %d slots on, only %d came out", n, popped)
		}
	}
}

func TestCredits(t *testing.T) {
	eachCredit(func(c impl.Credit) {
		want := c
		if c.Home > 0 {
			want = impl.Credit{Home: c.Home - 1, Out: c.Out + 1}
		}
		if got, ok := impl.SpendCredit(c); ok != (c.Home > 0) || got != want {
			t.Errorf("SpendCredit(%v) = %v, %t", c, got, ok)
		}
		want = c
		if c.Out > 0 {
			want = impl.Credit{Home: c.Home + 1, Out: c.Out - 1}
		}
		if got, ok := impl.ReturnCredit(c); ok != (c.Out > 0) || got != want {
			t.Errorf("ReturnCredit(%v) = %v, %t", c, got, ok)
		}
	})
	for _, c := range noCredits() {
		if got, ok := impl.SpendCredit(c); ok || got != c {
			t.Errorf("SpendCredit(%v) = %v, %t", c, got, ok)
		}
		if got, ok := impl.ReturnCredit(c); ok || got != c {
			t.Errorf("ReturnCredit(%v) = %v, %t", c, got, ok)
		}
	}
}

func TestLinkOk(t *testing.T) {
	eachRing(func(n int, head int, list []int) {
		r := aRing(n, head, list...)
		eachCredit(func(c impl.Credit) {
			want := c.Out == len(list) && c.Home == n-len(list)
			if got := impl.LinkOk(r, c); got != want {
				t.Errorf("LinkOk(%v, %v) is %t", r, c, got)
			}
		})
	})
	for _, r := range noRings() {
		for _, c := range []impl.Credit{{}, {Home: 1}, {Out: 1}, {Home: 3}, {Out: 3}, {Home: 2, Out: 1}, {Home: 1, Out: 2},
			{Home: len(r.Slots) - r.Count, Out: r.Count}} {
			if impl.LinkOk(r, c) {
				t.Errorf("LinkOk(%v, %v) is true", r, c)
			}
		}
	}
	for _, c := range noCredits() {
		for _, r := range []impl.Ring{aRing(1, 0), aRing(1, 0, 5), aRing(2, 1, 5), aRing(impl.MaxCap, 0), aRing(impl.MaxCap, 0, numbered(impl.MaxCap)...)} {
			if impl.LinkOk(r, c) {
				t.Errorf("LinkOk(%v, %v) is true", r, c)
			}
		}
	}
}

// TestPlayLink goes through all lists of up to eight ops in small rings.
func TestPlayLink(t *testing.T) {
	for n := 1; n <= 4; n++ {
		for length := range 9 {
			for bits := range 1 << length {
				var ops []int
				for i := range length {
					if bits>>i&1 == 1 {
						ops = append(ops, i)
					} else {
						ops = append(ops, -1-i)
					}
				}
				checkPlay(t, n, ops)
			}
		}
	}
}

func TestPlayLinkGoesRound(t *testing.T) {
	for n := 1; n <= impl.MaxCap; n++ {
		for stride := 1; stride < 12; stride++ {
			var ops []int
			for i := range impl.MaxList {
				if (i/stride+i*i)%3 == 0 || i%(2*n+stride) < n {
					ops = append(ops, i*i)
				} else {
					ops = append(ops, -i)
				}
			}
			checkPlay(t, n, ops)
		}
		checkPlay(t, n, slices.Repeat([]int{4, -1, -1}, 50))
		checkPlay(t, n, slices.Repeat([]int{0, 6, -1}, 50))
		checkPlay(t, n, repeated(3, n))
		checkPlay(t, n, repeated(3, n+1))
		checkPlay(t, n, repeated(3, impl.MaxList))
		checkPlay(t, n, repeated(-1, impl.MaxList))
		checkPlay(t, n, []int{math.MaxInt, math.MinInt, math.MinInt, 0, 0, -1, -1})
		checkPlay(t, n, nil)
	}
}

func TestPlayLinkRefuses(t *testing.T) {
	refused := func(n int, ops []int) {
		if r, c, told := impl.PlayLink(n, ops); !sameRing(r, impl.Ring{}) || c != (impl.Credit{}) || len(told) != 0 {
			t.Errorf("PlayLink(%d) of %d ops = %v, %v, %v", n, len(ops), r, c, told)
		}
	}
	for _, n := range noCaps() {
		refused(n, nil)
		refused(n, []int{5, 6, -1})
		refused(n, repeated(5, impl.MaxList+1))
	}
	for _, n := range []int{1, 2, impl.MaxCap} {
		refused(n, repeated(5, impl.MaxList+1))
		refused(n, repeated(-1, impl.MaxList+1))
		refused(n, repeated(5, 4*impl.MaxList))
	}
}

// Whatever is answered is written over afterwards: the rings that were given must stay as they were,
// and so must those that were answered for them before.
func TestRingsShareNoMemory(t *testing.T) {
	rings := append(noRings(), aRing(1, 0), aRing(1, 0, 5), aRing(3, 2, 5, 6), aRing(3, 2, 5, 6, 7), aRing(impl.MaxCap, 7, numbered(impl.MaxCap)...))
	for _, r := range rings {
		before := impl.Ring{Slots: slices.Clone(r.Slots), Head: r.Head, Count: r.Count}
		// A capacity behind the slots must not be used either.
		r.Slots = append(slices.Clone(r.Slots), 77, 78)[:len(r.Slots)]
		var lists [][]int
		for range 2 {
			pushed, _ := impl.PushRing(r, 8)
			popped, _, _ := impl.PopRing(r)
			same, _ := impl.GrowRing(r, max(1, r.Count))
			more, _ := impl.GrowRing(r, impl.MaxCap)
			fewer, _ := impl.GrowRing(r, 0)
			lists = append(lists, pushed.Slots, popped.Slots, same.Slots, more.Slots, fewer.Slots, impl.ListRing(r))
		}
		var were [][]int
		for _, list := range lists {
			were = append(were, slices.Clone(list))
		}
		for i, list := range lists {
			if !slices.Equal(list, were[i]) {
				t.Errorf("answer %d for %v shares memory with one ahead of it", i, before)
			}
			for place := range list {
				list[place] = -99
			}
			_ = append(list, -98)
		}
		if !sameRing(r, before) || !slices.Equal(r.Slots[:len(r.Slots)+2][len(r.Slots):], []int{77, 78}) {
			t.Errorf("%v became %v", before, r)
		}
	}
}
