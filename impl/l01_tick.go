package impl

import (
	"strconv"
	"strings"
)

const (
	MaxTick = 1000000000
	MaxList = 300
)

// A tick is a moment of the clock, or a span of it.
type tick int

const (
	noTick tick = iota - 1
	firstTick
	lastTick tick = MaxTick
)

const (
	ticksPerUnit = 1000
	restDigits   = 3
)

func (t tick) ok() bool { return firstTick <= t && t <= lastTick }

// plus checks both sides before it adds, so that no sum can turn over.
func (t tick) plus(d int) tick {
	if !t.ok() || d < -MaxTick || d > MaxTick {
		return noTick
	}
	return min(max(t+tick(d), firstTick), lastTick)
}

func (t tick) since(from tick) tick {
	if !t.ok() || !from.ok() {
		return noTick
	}
	return max(t-from, firstTick)
}

// reached tells whether t is at or behind the deadline that was set at from; a span of 0 turns the deadline off.
func (t tick) reached(from tick, after tick) bool {
	if !t.ok() || !from.ok() || !after.ok() || after == 0 {
		return false
	}
	return from.plus(int(after)) <= t
}

func (t tick) text() string {
	if !t.ok() {
		return ""
	}
	rest := strconv.Itoa(int(t % ticksPerUnit))
	noughts := strings.Repeat("0", restDigits-len(rest))
	return strconv.Itoa(int(t/ticksPerUnit)) + "." + noughts + rest
}

// sumOf looks at every number even when the sum is at its greatest: one that is no tick still counts.
func sumOf(list ...int) tick {
	if len(list) > MaxList {
		return noTick
	}
	sum := firstTick
	for _, x := range list {
		if !tick(x).ok() {
			return noTick
		}
		sum = sum.plus(x)
	}
	return sum
}

func TickOk(t int) bool { return tick(t).ok() }

func AddTick(t int, d int) int { return int(tick(t).plus(d)) }

func Since(from int, now int) int { return int(tick(now).since(tick(from))) }

func DueAt(from int, after int, now int) bool {
	return tick(now).reached(tick(from), tick(after))
}

func SoonestOf(list []int) int {
	if len(list) > MaxList {
		return int(noTick)
	}
	soonest := noTick
	for _, x := range list {
		t := tick(x)
		if t.ok() && (soonest == noTick || t < soonest) {
			soonest = t
		}
	}
	return int(soonest)
}

func SumTicks(list []int) int { return int(sumOf(list...)) }

func TickText(t int) string { return tick(t).text() }

// ParseTick writes the number that it read again: whatever is not written just so is no tick's text.
func ParseTick(text string) (int, bool) {
	t, err := strconv.Atoi(strings.Replace(text, ".", "", 1))
	if err != nil || tick(t).text() != text {
		return 0, false
	}
	return t, true
}
