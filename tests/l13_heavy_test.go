package tests

import (
	"fmt"
	"math"
	"slices"
	"testing"

	"loop.example/g00728/impl"
)

// aHeavy has a slot for each key and the count behind it.
func aHeavy(room int, total int, cut int, slots ...int) impl.Heavy {
	h := impl.Heavy{Room: room, Total: total, Cut: cut}
	for pair := range slices.Chunk(slots, 2) {
		h.Slots = append(h.Slots, impl.Slot{Key: pair[0], Count: pair[1]})
	}
	return h
}

// rowOf has slots for n keys from first on, of one count.
func rowOf(room int, first int, n int, count int) impl.Heavy {
	h := impl.Heavy{Room: room, Total: n * count}
	for i := range n {
		h.Slots = append(h.Slots, impl.Slot{Key: first + i, Count: count})
	}
	return h
}

func someRooms() []int { return []int{1, 2, 3, 5, 8, impl.MaxRoom - 1, impl.MaxRoom} }

func noHeavyRooms() []int {
	return []int{0, -1, -impl.MaxRoom, impl.MaxRoom + 1, 2 * impl.MaxRoom, impl.MaxAggs, 1<<32 + 1, math.MaxInt, math.MinInt}
}

func noKeys() []int {
	return []int{-1, -2, -impl.MaxKey, impl.MaxKey + 1, 2 * impl.MaxKey, 1<<32 + 1, math.MaxInt, math.MinInt}
}

func noParts() []int {
	return []int{0, -1, -2, -1000, 1001, 1002, 1 << 32, 1<<32 + 1, math.MaxInt, math.MinInt}
}

// noTallies are no Totals and no Cuts.
func noTallies() []int {
	return []int{-1, -2, -impl.MaxSum, impl.MaxSum + 1, 2 * impl.MaxSum, math.MaxInt, math.MinInt}
}

func someHeavies() []impl.Heavy {
	const key, most = impl.MaxKey, impl.MaxSum
	list := []impl.Heavy{
		aHeavy(2, 7, 1, 1, 2, 2, 2), aHeavy(3, 9, 0, 0, 1, key, 8), aHeavy(1, most, most, key, most), aHeavy(1, most-1, most-1, 0, most-1),
		aHeavy(2, 0, 0, 4, 5), aHeavy(2, 0, 9), aHeavy(4, 50, 3, 2, 9, 3, 9, 7, 1), aHeavy(2, most, 0, 5, most, 6, most), {Room: 2, Slots: []impl.Slot{}},
	}
	for _, room := range someRooms() {
		list = append(list, aHeavy(room, 0, 0), aHeavy(room, 5, 2, key, 1), rowOf(room, 0, room, 1), rowOf(room, 30, room, 3), rowOf(room, key-room+1, room, 2), rowOf(room, 9, room-1, 1))
	}
	return list
}

func noHeavies() []impl.Heavy {
	list := []impl.Heavy{
		{}, aHeavy(0, 0, 0, 1, 1),
		// Keys that don't rise.
		aHeavy(3, 9, 0, 5, 1, 4, 1), aHeavy(3, 9, 0, 5, 1, 5, 1), aHeavy(3, 9, 0, 5, 1, 5, 2), aHeavy(3, 9, 0, 1, 1, 5, 1, 4, 1), aHeavy(3, 9, 0, 1, 1, 5, 1, 1, 1), aHeavy(3, 9, 0, 6, 1, 5, 1, 7, 1),
		// Counts out of bounds, at each place.
		aHeavy(3, 9, 0, 5, 0), aHeavy(3, 9, 0, 5, 1, 6, 0), aHeavy(3, 9, 0, 4, 0, 5, 1), aHeavy(3, 9, 0, 4, 1, 5, 0, 6, 1), aHeavy(3, 9, 0, 5, -1), aHeavy(3, 9, 0, 5, impl.MaxSum+1), aHeavy(3, 9, 0, 5, 1, 6, impl.MaxSum+1), aHeavy(3, 9, 0, 5, math.MaxInt), aHeavy(3, 9, 0, 5, math.MinInt),
	}
	// More slots than room.
	for _, room := range someRooms() {
		list = append(list, rowOf(room, 3, room+1, 1), rowOf(room, 3, room+2, 7), rowOf(room, 3, 10*room, 1))
	}
	for _, room := range noHeavyRooms() {
		list = append(list, aHeavy(room, 0, 0), aHeavy(room, 7, 1, 1, 2), rowOf(room, 0, 17, 1))
	}
	for _, key := range noKeys() {
		list = append(list, aHeavy(3, 9, 0, key, 1), aHeavy(3, 9, 0, key, 1, 5, 2), aHeavy(3, 9, 0, 5, 2, key, 1))
	}
	for _, x := range noTallies() {
		list = append(list, aHeavy(3, x, 0), aHeavy(3, x, 1, 5, 2), aHeavy(3, 9, x), aHeavy(3, 9, x, 5, 2), aHeavy(3, x, x))
	}
	return list
}

func sameHeavy(a impl.Heavy, b impl.Heavy) bool {
	return a.Room == b.Room && slices.Equal(a.Slots, b.Slots) && a.Total == b.Total && a.Cut == b.Cut
}

// lentHeavy has room behind its slots, so that writing there is found, too.
func lentHeavy(h impl.Heavy) impl.Heavy {
	h.Slots = append(make([]impl.Slot, 0, len(h.Slots)+3), h.Slots...)
	return h
}

// checkHeavyKept finds what was written into a lent heavy, and what of the answer lies in its memory.
func checkHeavyKept(t *testing.T, given impl.Heavy, was impl.Heavy, answer impl.Heavy) {
	t.Helper()
	kept := slices.Concat(was.Slots, make([]impl.Slot, cap(given.Slots)-len(given.Slots)))
	if !slices.Equal(given.Slots[:cap(given.Slots)], kept) {
		t.Fatalf("%v was written into: %v", was, given.Slots[:cap(given.Slots)])
	}
	for i := range answer.Slots[:cap(answer.Slots)] {
		answer.Slots[:cap(answer.Slots)][i].Count = -77
	}
	if !slices.Equal(given.Slots[:cap(given.Slots)], kept) {
		t.Fatalf("the answer for %v shares memory with it", was)
	}
}

func checkHeavy(t *testing.T, what string, got impl.Heavy, ok bool, want impl.Heavy) {
	t.Helper()
	if !ok || !sameHeavy(got, want) || !impl.HeavyOk(got) {
		t.Fatalf("%s = %v, %t, want %v", what, got, ok, want)
	}
}

func checkAddedKey(t *testing.T, h impl.Heavy, key int, want impl.Heavy) impl.Heavy {
	t.Helper()
	given := lentHeavy(h)
	got, ok := impl.AddHeavy(given, key)
	answer := got
	answer.Slots = slices.Clone(got.Slots)
	checkHeavy(t, fmt.Sprintf("AddHeavy(%v, %d)", h, key), got, ok, want)
	checkHeavyKept(t, given, h, got)
	return answer
}

func checkNotAddedKey(t *testing.T, h impl.Heavy, key int) {
	t.Helper()
	given := lentHeavy(h)
	got, ok := impl.AddHeavy(given, key)
	if ok || !sameHeavy(got, h) {
		t.Fatalf("AddHeavy(%v, %d) = %v, %t", h, key, got, ok)
	}
	checkHeavyKept(t, given, h, got)
}

func checkMerged(t *testing.T, a impl.Heavy, b impl.Heavy, want impl.Heavy) {
	t.Helper()
	for range 2 {
		one, other := lentHeavy(a), lentHeavy(b)
		got, ok := impl.MergeHeavy(one, other)
		checkHeavy(t, fmt.Sprintf("MergeHeavy(%v, %v)", a, b), got, ok, want)
		checkHeavyKept(t, one, a, got)
		checkHeavyKept(t, other, b, got)
		a, b = b, a
	}
}

func checkNotMerged(t *testing.T, a impl.Heavy, b impl.Heavy) {
	t.Helper()
	for range 2 {
		one, other := lentHeavy(a), lentHeavy(b)
		if got, ok := impl.MergeHeavy(one, other); ok || !sameHeavy(got, impl.Heavy{}) {
			t.Fatalf("MergeHeavy(%v, %v) = %v, %t", a, b, got, ok)
		}
		checkHeavyKept(t, one, a, impl.Heavy{})
		checkHeavyKept(t, other, b, impl.Heavy{})
		a, b = b, a
	}
}

func checkShrunk(t *testing.T, h impl.Heavy, room int, want impl.Heavy) {
	t.Helper()
	given := lentHeavy(h)
	got, ok := impl.ShrinkHeavy(given, room)
	checkHeavy(t, fmt.Sprintf("ShrinkHeavy(%v, %d)", h, room), got, ok, want)
	checkHeavyKept(t, given, h, got)
}

func checkNotShrunk(t *testing.T, h impl.Heavy, room int) {
	t.Helper()
	given := lentHeavy(h)
	got, ok := impl.ShrinkHeavy(given, room)
	if ok || !sameHeavy(got, h) {
		t.Fatalf("ShrinkHeavy(%v, %d) = %v, %t", h, room, got, ok)
	}
	checkHeavyKept(t, given, h, got)
}

func checkPlayedKeys(t *testing.T, room int, keys []int, want impl.Heavy) {
	t.Helper()
	given := append(make([]int, 0, len(keys)+3), keys...)
	got, ok := impl.PlayHeavy(room, given)
	checkHeavy(t, fmt.Sprintf("PlayHeavy(%d, %v)", room, keys), got, ok, want)
	if !slices.Equal(given[:cap(given)], slices.Concat(keys, make([]int, cap(given)-len(given)))) {
		t.Fatalf("%v was written into: %v", keys, given[:cap(given)])
	}
}

func checkNotPlayed(t *testing.T, room int, keys []int) {
	t.Helper()
	if got, ok := impl.PlayHeavy(room, keys); ok || !sameHeavy(got, impl.Heavy{}) {
		t.Fatalf("PlayHeavy(%d, %v) = %v, %t", room, keys, got, ok)
	}
}

// addHeavyPlainly goes through the three cases one by one.
func addHeavyPlainly(h impl.Heavy, key int) impl.Heavy {
	next := impl.Heavy{Room: h.Room, Total: h.Total + 1, Cut: h.Cut}
	place := slices.IndexFunc(h.Slots, func(s impl.Slot) bool { return s.Key >= key })
	if place < 0 {
		place = len(h.Slots)
	}
	switch {
	case place < len(h.Slots) && h.Slots[place].Key == key:
		next.Slots = slices.Clone(h.Slots)
		next.Slots[place].Count++
	case len(h.Slots) < h.Room:
		next.Slots = slices.Insert(slices.Clone(h.Slots), place, impl.Slot{Key: key, Count: 1})
	default:
		next.Cut++
		next.Slots = lessPlain(h.Slots, 1)
	}
	return next
}

func lessPlain(slots []impl.Slot, x int) []impl.Slot {
	var left []impl.Slot
	for _, s := range slots {
		if s.Count > x {
			left = append(left, impl.Slot{Key: s.Key, Count: s.Count - x})
		}
	}
	return left
}

// cutPlainly takes 1 off so long as there are too many; it is for little counts.
func cutPlainly(h impl.Heavy) impl.Heavy {
	for len(h.Slots) > h.Room {
		h.Slots = lessPlain(h.Slots, 1)
		h.Cut++
	}
	return h
}

func mergePlainly(a impl.Heavy, b impl.Heavy) impl.Heavy {
	both := impl.Heavy{Room: a.Room, Total: a.Total + b.Total, Cut: a.Cut + b.Cut}
	for key := range impl.MaxKey + 1 {
		count := 0
		for _, s := range slices.Concat(a.Slots, b.Slots) {
			if s.Key == key {
				count += s.Count
			}
		}
		if count > 0 {
			both.Slots = append(both.Slots, impl.Slot{Key: key, Count: count})
		}
	}
	return cutPlainly(both)
}

func shrinkPlainly(h impl.Heavy, room int) impl.Heavy {
	h.Room = room
	return cutPlainly(h)
}

// someKeys are n drawn ones below kinds; the less ones come more often.
func someKeys(seed int, n int, kinds int) []int {
	next := stir(seed + 7000)
	var keys []int
	for range n {
		keys = append(keys, next(next(kinds)+1))
	}
	return keys
}

// onceEach are n keys from first on.
func onceEach(first int, n int) []int {
	var keys []int
	for i := range n {
		keys = append(keys, first+i)
	}
	return keys
}

func TestHeavyLimits(t *testing.T) {
	if impl.MaxRoom != 16 {
		t.Errorf("MaxRoom %d", impl.MaxRoom)
	}
}

func TestHeavyOk(t *testing.T) {
	for _, h := range someHeavies() {
		if !impl.HeavyOk(h) {
			t.Errorf("HeavyOk(%v) is false", h)
		}
	}
	for _, h := range noHeavies() {
		if impl.HeavyOk(h) {
			t.Errorf("HeavyOk(%v) is true", h)
		}
	}
}

// What is not HeavyOk is refused everywhere, and answered as it was where it is answered.
func TestNoHeaviesAreRefused(t *testing.T) {
	good := aHeavy(3, 9, 0, 5, 1)
	for _, h := range noHeavies() {
		for _, key := range []int{0, 1, 5, impl.MaxKey, -1} {
			checkNotAddedKey(t, h, key)
			if least, most := impl.AtLeast(h, key), impl.AtMost(h, key); least != -1 || most != -1 {
				t.Errorf("AtLeast(%v, %d) = %d, AtMost %d", h, key, least, most)
			}
		}
		for _, part := range []int{1, 2, 1000, 0} {
			checkPlaces(t, fmt.Sprintf("HeavyOver(%v, %d)", h, part), impl.HeavyOver(h, part))
			checkPlaces(t, fmt.Sprintf("SureOver(%v, %d)", h, part), impl.SureOver(h, part))
		}
		for _, room := range []int{1, 2, 3, impl.MaxRoom, h.Room, 0} {
			checkNotShrunk(t, h, room)
		}
		good.Room = h.Room
		checkNotMerged(t, h, aHeavy(3, 9, 0, 5, 1))
		checkNotMerged(t, h, good)
		checkNotMerged(t, h, aHeavy(h.Room, 0, 0))
		checkNotMerged(t, h, h)
		if text := impl.HeavyText(h); text != "" {
			t.Errorf("HeavyText(%v) = %q", h, text)
		}
	}
}

func TestNewHeavy(t *testing.T) {
	for room := 1; room <= impl.MaxRoom; room++ {
		h, ok := impl.NewHeavy(room)
		checkHeavy(t, fmt.Sprintf("NewHeavy(%d)", room), h, ok, impl.Heavy{Room: room})
	}
	for _, room := range noHeavyRooms() {
		if h, ok := impl.NewHeavy(room); ok || !sameHeavy(h, impl.Heavy{}) {
			t.Errorf("NewHeavy(%d) = %v, %t", room, h, ok)
		}
	}
}

func TestAddHeavy(t *testing.T) {
	const key = impl.MaxKey
	for _, c := range []struct {
		h    impl.Heavy
		key  int
		want impl.Heavy
	}{
		// A new key stands at its place, where there is room.
		{aHeavy(3, 0, 0), 5, aHeavy(3, 1, 0, 5, 1)}, {aHeavy(3, 4, 0, 5, 4), 4, aHeavy(3, 5, 0, 4, 1, 5, 4)}, {aHeavy(3, 4, 0, 5, 4), 6, aHeavy(3, 5, 0, 5, 4, 6, 1)}, {aHeavy(3, 8, 1, 3, 2, 9, 4), 6, aHeavy(3, 9, 1, 3, 2, 6, 1, 9, 4)},
		{aHeavy(3, 8, 1, 3, 2, 9, 4), 0, aHeavy(3, 9, 1, 0, 1, 3, 2, 9, 4)}, {aHeavy(3, 8, 1, 3, 2, 9, 4), key, aHeavy(3, 9, 1, 3, 2, 9, 4, key, 1)},
		// A key that has its slot, with room and at a full room.
		{aHeavy(3, 4, 2, 5, 4), 5, aHeavy(3, 5, 2, 5, 5)}, {aHeavy(2, 7, 1, 1, 2, 2, 2), 1, aHeavy(2, 8, 1, 1, 3, 2, 2)}, {aHeavy(2, 7, 1, 1, 2, 2, 2), 2, aHeavy(2, 8, 1, 1, 2, 2, 3)},
		{aHeavy(2, 2, 0, 0, 1, key, 1), 0, aHeavy(2, 3, 0, 0, 2, key, 1)}, {aHeavy(2, 2, 0, 0, 1, key, 1), key, aHeavy(2, 3, 0, 0, 1, key, 2)}, {aHeavy(1, 1, 0, 7, 1), 7, aHeavy(1, 2, 0, 7, 2)},
		// A new key at a full room: all counts 1, some greater, all greater. It is not taken, and the room that comes free waits for the next one.
		{aHeavy(2, 2, 0, 1, 1, 2, 1), 3, aHeavy(2, 3, 1)}, {aHeavy(2, 3, 0, 1, 2, 2, 1), 3, aHeavy(2, 4, 1, 1, 1)}, {aHeavy(2, 3, 0, 1, 1, 2, 2), 0, aHeavy(2, 4, 1, 2, 1)}, {aHeavy(2, 7, 1, 1, 2, 2, 2), 3, aHeavy(2, 8, 2, 1, 1, 2, 1)},
		{aHeavy(4, 20, 3, 1, 1, 3, 9, 5, 1, 7, 2), 4, aHeavy(4, 21, 4, 3, 8, 7, 1)}, {aHeavy(1, 1, 0, 7, 1), 8, aHeavy(1, 2, 1)}, {aHeavy(1, 9, 0, 7, 9), 8, aHeavy(1, 10, 1, 7, 8)}, {aHeavy(1, 9, 0, 0, 9), key, aHeavy(1, 10, 1, 0, 8)},
		{rowOf(16, 3, 16, 1), 2, aHeavy(16, 17, 1)}, {rowOf(16, 3, 16, 2), 19, aHeavyOf(rowOf(16, 3, 16, 1), 33, 1)}, {rowOf(16, 3, 15, 1), 18, aHeavyOf(rowOf(16, 3, 16, 1), 16, 0)},
		// What no list of keys comes to is added to all the same.
		{aHeavy(2, 0, 9), 4, aHeavy(2, 1, 9, 4, 1)}, {aHeavy(2, 0, 0, 4, 5), 4, aHeavy(2, 1, 0, 4, 6)},
	} {
		checkAddedKey(t, c.h, c.key, c.want)
	}
}

// aHeavyOf has the room and the slots of h.
func aHeavyOf(h impl.Heavy, total int, cut int) impl.Heavy {
	return impl.Heavy{Room: h.Room, Slots: h.Slots, Total: total, Cut: cut}
}

func TestAddHeavyAtTheBounds(t *testing.T) {
	const most = impl.MaxSum
	// Total at MaxSum and one less, in each of the three cases.
	checkAddedKey(t, aHeavy(2, most-1, 0, 4, 5), 4, aHeavy(2, most, 0, 4, 6))
	checkAddedKey(t, aHeavy(2, most-1, 0, 4, 5), 6, aHeavy(2, most, 0, 4, 5, 6, 1))
	checkAddedKey(t, aHeavy(2, most-1, 0, 4, 5, 5, 1), 6, aHeavy(2, most, 1, 4, 4))
	checkNotAddedKey(t, aHeavy(2, most, 0, 4, 5), 4)
	checkNotAddedKey(t, aHeavy(2, most, 0, 4, 5), 6)
	checkNotAddedKey(t, aHeavy(2, most, 0, 4, 5, 5, 1), 6)
	checkNotAddedKey(t, aHeavy(2, most, 0), 6)
	// A Count and a Cut that come to MaxSum.
	checkAddedKey(t, aHeavy(2, most-1, 0, 4, most-1), 4, aHeavy(2, most, 0, 4, most))
	checkAddedKey(t, aHeavy(1, most-1, most-1, 4, most), 5, aHeavy(1, most, most, 4, most-1))
	// Total alone is what is asked: a Count or a Cut at MaxSum, which no list of keys comes to ahead of it, goes on.
	if got, ok := impl.AddHeavy(aHeavy(2, 5, 0, 4, most), 4); !ok || !sameHeavy(got, aHeavy(2, 6, 0, 4, most+1)) {
		t.Errorf("a Count at MaxSum: %v, %t", got, ok)
	}
	if got, ok := impl.AddHeavy(aHeavy(1, 5, most, 4, 2), 5); !ok || !sameHeavy(got, aHeavy(1, 6, most+1, 4, 1)) {
		t.Errorf("a Cut at MaxSum: %v, %t", got, ok)
	}
}

func TestAddHeavyRefusesNoKeys(t *testing.T) {
	for _, h := range someHeavies() {
		for _, key := range noKeys() {
			checkNotAddedKey(t, h, key)
		}
	}
}

// Whatever comes, each key is added as it is plainly.
func TestAddHeavyOfManyKeys(t *testing.T) {
	taken, full := 0, 0
	for _, h := range someHeavies() {
		for key := range 40 {
			if h.Total < impl.MaxSum-1 {
				checkAddedKey(t, h, key, addHeavyPlainly(h, key))
				checkAddedKey(t, h, impl.MaxKey-key, addHeavyPlainly(h, impl.MaxKey-key))
			}
		}
	}
	for seed := range 60 {
		room := seed%impl.MaxRoom + 1
		h, _ := impl.NewHeavy(room)
		for _, key := range someKeys(seed, 100, room+seed%9) {
			next := checkAddedKey(t, h, key, addHeavyPlainly(h, key))
			if next.Cut > h.Cut {
				full++
			} else {
				taken++
			}
			h = next
		}
	}
	if taken < 2000 || full < 300 {
		t.Errorf("%d taken, %d not", taken, full)
	}
}

// Counts of 1 at a full room go all at once, and others come in their place.
func TestRoundsOfOnes(t *testing.T) {
	for room := 1; room <= impl.MaxRoom; room++ {
		h, _ := impl.NewHeavy(room)
		for round := range 5 {
			for i := range room {
				h = checkAddedKey(t, h, 100*round+i, aHeavyOf(rowOf(room, 100*round, i+1, 1), h.Total+1, round))
			}
			h = checkAddedKey(t, h, 100*round+room, aHeavy(room, h.Total+1, round+1))
		}
	}
}

func TestAtLeastAndAtMost(t *testing.T) {
	const key, most = impl.MaxKey, impl.MaxSum
	for _, c := range []struct {
		h           impl.Heavy
		key         int
		least, most int
	}{
		{aHeavy(2, 7, 1, 1, 2, 2, 3), 1, 2, 3}, {aHeavy(2, 7, 1, 1, 2, 2, 3), 2, 3, 4}, {aHeavy(2, 7, 1, 1, 2, 2, 3), 3, 0, 1}, {aHeavy(2, 7, 1, 1, 2, 2, 3), 0, 0, 1},
		{aHeavy(2, 0, 0), 0, 0, 0}, {aHeavy(2, 0, 0), key, 0, 0}, {aHeavy(3, 9, 4, 0, 1, 7, 6, key, 3), 0, 1, 5}, {aHeavy(3, 9, 4, 0, 1, 7, 6, key, 3), key, 3, 7}, {aHeavy(3, 9, 4, 0, 1, 7, 6, key, 3), 7, 6, 10}, {aHeavy(3, 9, 4, 0, 1, 7, 6, key, 3), 8, 0, 4},
		// Both bounds, however great.
		{aHeavy(1, most, most, 5, most), 5, most, 2 * most}, {aHeavy(1, most, most, 5, most), 6, 0, most},
		// A key that is none has no slot.
		{aHeavy(2, 7, 1, 0, 2, key, 3), -1, 0, 1}, {aHeavy(2, 7, 1, 0, 2, key, 3), key + 1, 0, 1}, {aHeavy(2, 7, 1, 0, 2, key, 3), math.MaxInt, 0, 1}, {aHeavy(2, 7, 1, 0, 2, key, 3), math.MinInt, 0, 1},
	} {
		given := lentHeavy(c.h)
		if least, most := impl.AtLeast(given, c.key), impl.AtMost(given, c.key); least != c.least || most != c.most {
			t.Errorf("AtLeast(%v, %d) = %d, AtMost %d, want %d, %d", c.h, c.key, least, most, c.least, c.most)
		}
		checkHeavyKept(t, given, c.h, impl.Heavy{})
	}
}

func TestPlayHeavy(t *testing.T) {
	const key = impl.MaxKey
	for _, room := range someRooms() {
		checkPlayedKeys(t, room, nil, aHeavy(room, 0, 0))
		checkPlayedKeys(t, room, []int{}, aHeavy(room, 0, 0))
		checkPlayedKeys(t, room, []int{0}, aHeavy(room, 1, 0, 0, 1))
		checkPlayedKeys(t, room, []int{key, key}, aHeavy(room, 2, 0, key, 2))
		checkPlayedKeys(t, room, onceEach(8, room), rowOf(room, 8, room, 1))
		checkPlayedKeys(t, room, onceEach(8, room+1), aHeavy(room, room+1, 1))
		checkPlayedKeys(t, room, onceEach(8, room+2), aHeavy(room, room+2, 1, 9+room, 1))
	}
	checkPlayedKeys(t, 2, []int{1, 1, 2, 3, 1, 2, 2}, aHeavy(2, 7, 1, 1, 2, 2, 2))
	checkPlayedKeys(t, 1, []int{9, 8}, aHeavy(1, 2, 1))
	checkPlayedKeys(t, 1, []int{9, 9, 9, 8, 8}, aHeavy(1, 5, 2, 9, 1))
	checkPlayedKeys(t, 1, []int{0, key, 0, key, 0}, aHeavy(1, 5, 2, 0, 1))
	checkPlayedKeys(t, 2, []int{key, 0, 5, key, 0, 0}, aHeavy(2, 6, 1, 0, 2, key, 1))
	// The order in which they come is what they come to.
	checkPlayedKeys(t, 1, []int{1, 1, 2, 2, 3}, aHeavy(1, 5, 2, 3, 1))
	checkPlayedKeys(t, 1, []int{3, 2, 1, 2, 1}, aHeavy(1, 5, 2, 1, 1))
}

func TestPlayHeavyOfLongLists(t *testing.T) {
	const n = impl.MaxList
	for _, room := range someRooms() {
		checkPlayedKeys(t, room, repeated(7, n), aHeavy(room, n, 0, 7, n))
		checkPlayedKeys(t, room, repeated(7, n-1), aHeavy(room, n-1, 0, 7, n-1))
		rounds, rest := n/(room+1), n%(room+1)
		checkPlayedKeys(t, room, onceEach(0, n), aHeavyOf(rowOf(room, n-rest, rest, 1), n, rounds))
		checkNotPlayed(t, room, repeated(7, n+1))
		checkNotPlayed(t, room, onceEach(0, n+1))
		checkNotPlayed(t, room, repeated(7, 9*n))
	}
}

func TestPlayHeavyRefuses(t *testing.T) {
	for _, room := range noHeavyRooms() {
		checkNotPlayed(t, room, nil)
		checkNotPlayed(t, room, []int{1, 2})
		checkNotPlayed(t, room, []int{-1})
		checkNotPlayed(t, room, repeated(7, impl.MaxList+1))
	}
	// One that is no key is enough, wherever it stands.
	for _, key := range noKeys() {
		for _, room := range someRooms() {
			checkNotPlayed(t, room, []int{key})
			checkNotPlayed(t, room, []int{key, 1, 1, 2})
			checkNotPlayed(t, room, []int{1, 1, key, 2})
			checkNotPlayed(t, room, []int{1, 1, 2, key})
			checkNotPlayed(t, room, append(repeated(7, impl.MaxList-1), key))
		}
	}
}

func TestMergeHeavy(t *testing.T) {
	const key = impl.MaxKey
	for _, c := range []struct{ a, b, want impl.Heavy }{
		{aHeavy(2, 0, 0), aHeavy(2, 0, 0), aHeavy(2, 0, 0)}, {aHeavy(2, 7, 1, 1, 2, 2, 2), aHeavy(2, 0, 0), aHeavy(2, 7, 1, 1, 2, 2, 2)},
		{aHeavy(2, 7, 1, 1, 2, 2, 2), aHeavy(2, 7, 1, 1, 2, 2, 2), aHeavy(2, 14, 2, 1, 4, 2, 4)}, {aHeavy(2, 5, 1), aHeavy(2, 4, 2), aHeavy(2, 9, 3)},
		// Fewer than Room, just Room, and one more.
		{aHeavy(4, 5, 0, 1, 5), aHeavy(4, 6, 0, 2, 6), aHeavy(4, 11, 0, 1, 5, 2, 6)}, {aHeavy(2, 5, 0, 1, 5), aHeavy(2, 6, 0, 2, 6), aHeavy(2, 11, 0, 1, 5, 2, 6)}, {aHeavy(3, 7, 0, 1, 5, 9, 2), aHeavy(3, 6, 1, 2, 6), aHeavy(3, 13, 1, 1, 5, 2, 6, 9, 2)},
		{aHeavy(2, 7, 0, 1, 5, 9, 2), aHeavy(2, 6, 1, 2, 6), aHeavy(2, 13, 3, 1, 3, 2, 4)}, {aHeavy(1, 5, 0, 1, 5), aHeavy(1, 7, 0, 2, 7), aHeavy(1, 12, 5, 2, 2)},
		// As many more as there may be.
		{aHeavy(2, 13, 0, 1, 5, 3, 8), aHeavy(2, 9, 0, 2, 6, 4, 3), aHeavy(2, 22, 5, 2, 1, 3, 3)}, {rowOf(16, 0, 16, 9), rowOf(16, 16, 16, 4), aHeavyOf(rowOf(16, 0, 16, 5), 208, 4)}, {rowOf(16, 0, 16, 9), rowOf(16, 16, 16, 9), aHeavy(16, 288, 9)},
		// A key of both counts together, also where it alone comes about place Room.
		{aHeavy(2, 9, 0, 1, 4, 2, 5), aHeavy(2, 9, 0, 2, 3, 3, 6), aHeavy(2, 18, 4, 2, 4, 3, 2)}, {aHeavy(2, 5, 0, 1, 2, 2, 3), aHeavy(2, 8, 0, 1, 2, 3, 6), aHeavy(2, 13, 3, 1, 1, 3, 3)},
		// Counts that are the same about place Room: all of them go.
		{aHeavy(2, 8, 0, 1, 5, 2, 3), aHeavy(2, 3, 0, 3, 3), aHeavy(2, 11, 3, 1, 2)}, {aHeavy(2, 8, 0, 1, 3, 2, 3), aHeavy(2, 3, 0, 3, 3), aHeavy(2, 11, 3)}, {aHeavy(3, 9, 0, 1, 3, 2, 3, 5, 3), aHeavy(3, 8, 2, 4, 3, 6, 5), aHeavy(3, 17, 5, 6, 2)}, {aHeavy(1, 3, 0, 1, 3), aHeavy(1, 3, 0, 2, 3), aHeavy(1, 6, 3)},
		// Those about place Room that differ by 1.
		{aHeavy(2, 9, 0, 1, 5, 2, 4), aHeavy(2, 3, 0, 3, 3), aHeavy(2, 12, 3, 1, 2, 2, 1)},
		{aHeavy(2, 5, 0, 0, 5), aHeavy(2, 6, 0, key, 6), aHeavy(2, 11, 0, 0, 5, key, 6)}, {aHeavy(1, 5, 2, 0, 3), aHeavy(1, 6, 0, key, 6), aHeavy(1, 11, 5, key, 3)},
	} {
		checkMerged(t, c.a, c.b, c.want)
	}
}

func TestMergeHeavyAtTheBounds(t *testing.T) {
	const most = impl.MaxSum
	// Counts.
	checkMerged(t, aHeavy(2, 5, 0, 1, most-5), aHeavy(2, 5, 0, 1, 5), aHeavy(2, 10, 0, 1, most))
	checkNotMerged(t, aHeavy(2, 5, 0, 1, most-5), aHeavy(2, 5, 0, 1, 6))
	checkNotMerged(t, aHeavy(2, 5, 0, 1, most), aHeavy(2, 5, 0, 1, 1))
	checkNotMerged(t, aHeavy(2, 5, 0, 1, most), aHeavy(2, 5, 0, 1, most))
	// It counts what comes: the counts less x.
	checkMerged(t, aHeavy(2, 9, 0, 1, most, 2, 7), aHeavy(2, 9, 0, 1, 4, 3, 4), aHeavy(2, 18, 4, 1, most, 2, 3))
	checkNotMerged(t, aHeavy(2, 9, 0, 1, most, 2, 7), aHeavy(2, 9, 0, 1, 5, 3, 4))
	checkMerged(t, aHeavy(1, 9, 0, 1, most), aHeavy(1, 9, 0, 2, most), aHeavy(1, 18, most))
	// Totals.
	checkMerged(t, aHeavy(2, most-5, 0, 1, 2), aHeavy(2, 5, 0, 1, 2), aHeavy(2, most, 0, 1, 4))
	checkMerged(t, aHeavy(2, most, 0, 1, 2), aHeavy(2, 0, 0), aHeavy(2, most, 0, 1, 2))
	checkNotMerged(t, aHeavy(2, most-5, 0, 1, 2), aHeavy(2, 6, 0, 1, 2))
	checkNotMerged(t, aHeavy(2, most, 0), aHeavy(2, 1, 0))
	checkNotMerged(t, aHeavy(2, most, 0), aHeavy(2, most, 0))
	// Cuts, and with x.
	checkMerged(t, aHeavy(2, 9, most-5, 1, 2), aHeavy(2, 5, 5, 1, 2), aHeavy(2, 14, most, 1, 4))
	checkNotMerged(t, aHeavy(2, 9, most-5, 1, 2), aHeavy(2, 5, 6, 1, 2))
	checkNotMerged(t, aHeavy(2, 9, most), aHeavy(2, 5, most))
	checkMerged(t, aHeavy(1, 9, most-5, 1, 3), aHeavy(1, 5, 2, 2, 4), aHeavy(1, 14, most, 2, 1))
	checkNotMerged(t, aHeavy(1, 9, most-5, 1, 3), aHeavy(1, 5, 3, 2, 4))
	checkNotMerged(t, aHeavy(1, 9, most-5, 1, 4), aHeavy(1, 5, 2, 2, 4))
	checkNotMerged(t, aHeavy(1, 9, 1, 1, most), aHeavy(1, 9, 0, 2, most))
}

func TestMergeHeavyRefusesOtherRooms(t *testing.T) {
	for a := 1; a <= impl.MaxRoom; a++ {
		for b := 1; b <= impl.MaxRoom; b++ {
			if a == b {
				checkMerged(t, aHeavy(a, 0, 0), aHeavy(b, 5, 1, 4, 2), aHeavy(a, 5, 1, 4, 2))
				continue
			}
			checkNotMerged(t, aHeavy(a, 0, 0), aHeavy(b, 0, 0))
			checkNotMerged(t, aHeavy(a, 5, 0, 4, 2), aHeavy(b, 5, 1, 4, 2))
		}
	}
}

func TestHeavyOverAndSureOver(t *testing.T) {
	const key, most = impl.MaxKey, impl.MaxSum
	for _, c := range []struct {
		h          impl.Heavy
		part       int
		over, sure []int
	}{
		{aHeavy(2, 7, 1, 1, 2, 2, 2), 3, []int{1, 2}, nil}, {aHeavy(2, 7, 1, 1, 2, 2, 2), 7, []int{1, 2}, []int{1, 2}}, {aHeavy(2, 7, 1, 1, 2, 2, 2), 2, nil, nil}, {aHeavy(2, 7, 1, 1, 2, 2, 2), 4, []int{1, 2}, []int{1, 2}},
		// A count times part that is just Total, and one more.
		{aHeavy(3, 12, 0, 4, 3, 5, 4, 6, 5), 3, []int{6}, []int{6}}, {aHeavy(3, 12, 0, 4, 3, 5, 4, 6, 5), 4, []int{5, 6}, []int{5, 6}}, {aHeavy(3, 11, 0, 4, 3, 5, 4), 3, []int{5}, []int{5}}, {aHeavy(3, 12, 1, 4, 3, 5, 4, 6, 2), 3, []int{5}, nil}, {aHeavy(3, 11, 1, 4, 3, 5, 4, 6, 2), 3, []int{4, 5}, []int{5}},
		{aHeavy(3, 5, 0, 4, 5), 1, nil, nil}, {aHeavy(3, 4, 0, 4, 5), 1, []int{4}, []int{4}}, {aHeavy(3, 5, 1, 4, 5), 1, []int{4}, nil}, {aHeavy(3, 5, 1, 4, 4), 1, nil, nil},
		{aHeavy(3, 1000, 0, 4, 1), 1000, nil, nil}, {aHeavy(3, 999, 0, 4, 1), 1000, []int{4}, []int{4}}, {aHeavy(3, 1999, 1, 4, 1, 7, 2), 1000, []int{4, 7}, []int{7}}, {aHeavy(3, 2000, 1, 4, 1, 7, 2), 1000, []int{7}, nil},
		{aHeavy(3, 1000, 0, 4, 1), 999, nil, nil}, {aHeavy(3, 998, 0, 4, 1), 999, []int{4}, []int{4}},
		// No slots, none of whatever Cut is.
		{aHeavy(3, 0, 0), 1, nil, nil}, {aHeavy(3, 0, 0), 1000, nil, nil}, {aHeavy(3, 5, 4), 1000, nil, nil}, {aHeavy(3, 0, 0, 4, 1), 1, []int{4}, []int{4}},
		// By key, not by count; the ends of the keys, and great numbers.
		{aHeavy(4, 9, 0, 0, 2, 3, 3, 8, 1, key, 3), 9, []int{0, 3, key}, []int{0, 3, key}}, {aHeavy(4, 9, 0, 0, 9, 3, 7, 8, 8, key, 7), 2, []int{0, 3, 8, key}, []int{0, 3, 8, key}},
		{aHeavy(1, most, most, 5, most), 1, []int{5}, nil}, {aHeavy(1, most, most, 5, most), 1000, []int{5}, []int{5}}, {aHeavy(2, most, 0, 5, most/1000, 6, most/1000+1), 1000, []int{6}, []int{6}},
	} {
		given := lentHeavy(c.h)
		checkPlaces(t, fmt.Sprintf("HeavyOver(%v, %d)", c.h, c.part), impl.HeavyOver(given, c.part), c.over...)
		checkPlaces(t, fmt.Sprintf("SureOver(%v, %d)", c.h, c.part), impl.SureOver(given, c.part), c.sure...)
		checkHeavyKept(t, given, c.h, impl.Heavy{})
	}
}

func TestHeavyOverRefusesNoParts(t *testing.T) {
	for _, h := range someHeavies() {
		for _, part := range noParts() {
			checkPlaces(t, fmt.Sprintf("HeavyOver(%v, %d)", h, part), impl.HeavyOver(h, part))
			checkPlaces(t, fmt.Sprintf("SureOver(%v, %d)", h, part), impl.SureOver(h, part))
		}
	}
}

func TestTrueCounts(t *testing.T) {
	const key = impl.MaxKey
	for _, c := range []struct {
		keys []int
		key  int
		want int
	}{
		{nil, 0, 0}, {[]int{}, 5, 0}, {[]int{0}, 0, 1}, {[]int{1}, 0, 0}, {[]int{1, 2, 1}, 1, 2}, {[]int{1, 2, 1}, 2, 1}, {[]int{1, 2, 1}, 3, 0}, {[]int{key, 0, key}, key, 2}, {[]int{key, 0, key}, 0, 1},
		// Any numbers are counted, and lists of any length.
		{[]int{-1, 5, -1}, -1, 2}, {[]int{math.MinInt, math.MaxInt}, math.MaxInt, 1}, {repeated(7, impl.MaxList), 7, impl.MaxList}, {repeated(7, impl.MaxList+1), 7, impl.MaxList + 1}, {repeated(7, 9*impl.MaxList), 7, 9 * impl.MaxList}, {repeated(7, 9*impl.MaxList), 8, 0},
	} {
		given := slices.Clone(c.keys)
		if got := impl.TrueCounts(given, c.key); got != c.want || !slices.Equal(given, c.keys) {
			t.Errorf("TrueCounts(%v, %d) = %d, want %d", c.keys, c.key, got, c.want)
		}
	}
}

func TestHeavyText(t *testing.T) {
	for _, c := range []struct {
		h    impl.Heavy
		want string
	}{
		{aHeavy(2, 7, 1, 1, 2, 2, 2), "7-1 1x2 2x2"}, {aHeavy(1, 0, 0), "0-0"}, {aHeavy(16, 2, 1), "2-1"}, {aHeavy(3, 100, 20, 0, 1, 30, 40, impl.MaxKey, 5), "100-20 0x1 30x40 65535x5"},
		{aHeavy(1, impl.MaxSum, impl.MaxSum, impl.MaxKey, impl.MaxSum), "1000000000-1000000000 65535x1000000000"},
		{rowOf(16, 1, 16, 1), "16-0 1x1 2x1 3x1 4x1 5x1 6x1 7x1 8x1 9x1 10x1 11x1 12x1 13x1 14x1 15x1 16x1"},
	} {
		if got := impl.HeavyText(c.h); got != c.want {
			t.Errorf("HeavyText(%v) = %q, want %q", c.h, got, c.want)
		}
	}
}

func TestShrinkHeavy(t *testing.T) {
	const key, most = impl.MaxKey, impl.MaxSum
	for _, c := range []struct {
		h    impl.Heavy
		room int
		want impl.Heavy
	}{
		// To 1.
		{aHeavy(2, 7, 1, 1, 2, 2, 2), 1, aHeavy(1, 7, 3)}, {aHeavy(2, 7, 1, 1, 2, 2, 3), 1, aHeavy(1, 7, 3, 2, 1)}, {aHeavy(4, 20, 1, 1, 3, 5, 9, 6, 2, 7, 6), 1, aHeavy(1, 20, 7, 5, 3)}, {aHeavy(4, 20, 1, 1, 3, 5, 9, 6, 9, 7, 6), 1, aHeavy(1, 20, 10)},
		{rowOf(16, 0, 16, 1), 1, aHeavy(1, 16, 1)}, {aHeavy(16, 5, 2, key, 3), 1, aHeavy(1, 5, 2, key, 3)}, {aHeavy(16, 5, 2), 1, aHeavy(1, 5, 2)}, {aHeavy(16, 0, 0), 1, aHeavy(1, 0, 0)}, {aHeavy(1, 5, 2, 0, 3), 1, aHeavy(1, 5, 2, 0, 3)},
		// To one less than what is held, to what is held, to more than that, and to the Room that it has.
		{aHeavy(5, 20, 1, 1, 3, 5, 9, 7, 6), 2, aHeavy(2, 20, 4, 5, 6, 7, 3)}, {aHeavy(5, 20, 1, 1, 3, 5, 9, 7, 6), 3, aHeavy(3, 20, 1, 1, 3, 5, 9, 7, 6)}, {aHeavy(5, 20, 1, 1, 3, 5, 9, 7, 6), 4, aHeavy(4, 20, 1, 1, 3, 5, 9, 7, 6)}, {aHeavy(5, 20, 1, 1, 3, 5, 9, 7, 6), 5, aHeavy(5, 20, 1, 1, 3, 5, 9, 7, 6)},
		{rowOf(16, 5, 16, 2), 16, rowOf(16, 5, 16, 2)}, {rowOf(16, 5, 16, 2), 15, aHeavy(15, 32, 2)},
		// Counts that are the same about place room, and those that differ by 1.
		{aHeavy(4, 20, 1, 1, 6, 5, 9, 6, 2, 7, 6), 2, aHeavy(2, 20, 7, 5, 3)}, {aHeavy(4, 20, 1, 1, 6, 5, 9, 6, 6, 7, 6), 3, aHeavy(3, 20, 7, 5, 3)}, {aHeavy(4, 20, 1, 1, 7, 5, 9, 6, 2, 7, 6), 2, aHeavy(2, 20, 7, 1, 1, 5, 3)},
		// Cut comes to just MaxSum.
		{aHeavy(2, 9, most-2, 4, 2, 5, 7), 1, aHeavy(1, 9, most, 5, 5)}, {aHeavy(2, 9, 0, 4, most, 5, most), 1, aHeavy(1, 9, most)}, {aHeavy(2, most, most, 4, 2, 5, 7), 2, aHeavy(2, most, most, 4, 2, 5, 7)}, {aHeavy(2, most, most, 4, 2), 1, aHeavy(1, most, most, 4, 2)},
	} {
		checkShrunk(t, c.h, c.room, c.want)
	}
}

func TestShrinkHeavyRefuses(t *testing.T) {
	const most = impl.MaxSum
	for _, h := range someHeavies() {
		for _, room := range append(noHeavyRooms(), h.Room+1, h.Room+2, impl.MaxRoom+h.Room) {
			checkNotShrunk(t, h, room)
		}
	}
	// Cut would come to more than MaxSum.
	checkNotShrunk(t, aHeavy(2, 9, most-2, 4, 3, 5, 7), 1)
	checkNotShrunk(t, aHeavy(2, 9, most, 4, 1, 5, 1), 1)
	checkNotShrunk(t, aHeavy(2, 9, 1, 4, most, 5, most), 1)
}

// Whatever is merged or shrunk, it is as it is plainly, and the same each time.
func TestMergeAndShrinkOfManyKeys(t *testing.T) {
	cut := 0
	for seed := range 80 {
		room := seed%impl.MaxRoom + 1
		a, _ := impl.PlayHeavy(room, someKeys(seed, 3*seed, 2*room+seed%5))
		b, _ := impl.PlayHeavy(room, someKeys(seed+900, 240-3*seed, room+1+seed%11))
		want := mergePlainly(a, b)
		for range 3 {
			checkMerged(t, a, b, want)
		}
		for less := 1; less <= room; less++ {
			checkShrunk(t, want, less, shrinkPlainly(want, less))
		}
		if want.Cut > a.Cut+b.Cut {
			cut++
		}
	}
	if cut < 40 {
		t.Errorf("%d merges had too many slots", cut)
	}
}

// checkBounds holds what was counted against all keys that came: no count is too great, none too
// small by more than Cut, and Cut is at most Total divided by Room and 1 together.
func checkBounds(t *testing.T, what string, h impl.Heavy, keys []int) {
	t.Helper()
	if !impl.HeavyOk(h) || h.Total != len(keys) || h.Cut > h.Total/(h.Room+1) {
		t.Fatalf("%s: %v of %d keys", what, h, len(keys))
	}
	for _, key := range append(slices.Clone(keys), 0, 1, impl.MaxKey) {
		came := impl.TrueCounts(keys, key)
		if least, most := impl.AtLeast(h, key), impl.AtMost(h, key); least > came || came > most || most-least != h.Cut {
			t.Fatalf("%s: %v: the key %d came %d times, at least %d, at most %d", what, h, key, came, least, most)
		}
	}
}

// checkOver looks for keys that are not named, and for those that are named and should not be. A key
// that has no slot came at most Cut times, and so it is only up to Room + 1 that none is left out.
func checkOver(t *testing.T, what string, h impl.Heavy, keys []int) (int, int) {
	t.Helper()
	named, sure := 0, 0
	for _, part := range append(onceEach(1, h.Room+1), 100, 999, 1000) {
		over, surely := impl.HeavyOver(h, part), impl.SureOver(h, part)
		if !slices.IsSorted(over) || !slices.IsSorted(surely) {
			t.Fatalf("%s: %v by %d: %v, %v", what, h, part, over, surely)
		}
		for _, key := range append(slices.Clone(keys), over...) {
			often := impl.TrueCounts(keys, key)*part > h.Total
			if often && part <= h.Room+1 && !slices.Contains(over, key) || !often && slices.Contains(surely, key) {
				t.Fatalf("%s: %v by %d: the key %d, which came %d times: %v, %v", what, h, part, key, impl.TrueCounts(keys, key), over, surely)
			}
		}
		for _, key := range surely {
			if !slices.Contains(over, key) {
				t.Fatalf("%s: %v by %d: %v, %v", what, h, part, over, surely)
			}
		}
		named, sure = named+len(over), sure+len(surely)
	}
	return named, sure
}

func TestNoCountIsTooGreatOrTooSmall(t *testing.T) {
	named, sure, cut := 0, 0, 0
	for seed := range 60 {
		for _, room := range someRooms() {
			keys := someKeys(seed, 5*seed, room+1+seed%13)
			h, ok := impl.PlayHeavy(room, keys)
			if !ok {
				t.Fatalf("PlayHeavy(%d, %v) is false", room, keys)
			}
			checkBounds(t, "played", h, keys)
			n, s := checkOver(t, "played", h, keys)
			named, sure, cut = named+n, sure+s, cut+h.Cut
			for less := 1; less <= room; less++ {
				shrunk, ok := impl.ShrinkHeavy(h, less)
				if !ok || shrunk.Room != less {
					t.Fatalf("ShrinkHeavy(%v, %d) = %v, %t", h, less, shrunk, ok)
				}
				checkBounds(t, "shrunk", shrunk, keys)
				checkOver(t, "shrunk", shrunk, keys)
			}
		}
	}
	if named < 5000 || sure < 3000 || cut < 2000 {
		t.Errorf("%d named, %d surely, %d cut", named, sure, cut)
	}
}

// Lists that are counted apart and merged keep to the same bounds, however many they are, and so
// does what is shrunk, goes on, and is merged again.
func TestMergedKeepToTheBounds(t *testing.T) {
	for seed := range 60 {
		room := seed%impl.MaxRoom + 1
		var all []int
		whole, _ := impl.NewHeavy(room)
		for piece := range 4 {
			keys := someKeys(10*seed+piece, 20+seed%50, room+1+seed%13)
			h, _ := impl.PlayHeavy(room, keys)
			merged, ok := impl.MergeHeavy(whole, h)
			all = append(all, keys...)
			if !ok {
				t.Fatalf("MergeHeavy(%v, %v) is false", whole, h)
			}
			checkBounds(t, "merged", merged, all)
			checkOver(t, "merged", merged, all)
			whole = merged
		}
		less := seed%room + 1
		small, _ := impl.ShrinkHeavy(whole, less)
		for _, key := range someKeys(seed+400, 30, room+2) {
			small, _ = impl.AddHeavy(small, key)
			all = append(all, key)
		}
		keys := someKeys(seed+500, 40, room+2)
		other, _ := impl.PlayHeavy(less, keys)
		all = append(all, keys...)
		again, ok := impl.MergeHeavy(small, other)
		if !ok {
			t.Fatalf("MergeHeavy(%v, %v) is false", small, other)
		}
		checkBounds(t, "merged again", again, all)
		checkOver(t, "merged again", again, all)
	}
}
