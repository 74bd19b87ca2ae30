// Package tests holds the project's tests, a file for each chapter of the specification.
package tests

import (
	"math"
	"regexp"
	"slices"
	"strconv"
	"strings"
	"testing"

	"loop.example/g00728/impl"
)

const noTick = -1

// someTicks are the ends, their neighbours, and the numbers at which a tick's text gets longer.
func someTicks() []int {
	return []int{
		0, 1, 2, 7, 9, 10, 99, 100, 101, 999, 1000, 1001, 1010, 1100, 9999, 10000, 12034, 99999,
		100000, 999999, 1000000, 9999999, 10000000, 123456789, 499999999, 500000000, 500000001,
		999000000, 999999000, 999999998, impl.MaxTick - 1, impl.MaxTick,
	}
}

func noTicks() []int {
	return []int{
		-1, -2, -1000, -impl.MaxTick, impl.MaxTick + 1, 2 * impl.MaxTick,
		math.MaxInt32 + 1, math.MaxInt - 1, math.MaxInt, math.MinInt, math.MinInt + 1,
	}
}

func repeated(x int, n int) []int {
	return slices.Repeat([]int{x}, n)
}

func TestTickLimits(t *testing.T) {
	if impl.MaxTick != 1000000000 || impl.MaxList != 300 {
		t.Errorf("MaxTick %d, MaxList %d", impl.MaxTick, impl.MaxList)
	}
}

func TestTickOk(t *testing.T) {
	for _, x := range someTicks() {
		if !impl.TickOk(x) {
			t.Errorf("TickOk(%d) is false", x)
		}
	}
	for _, x := range noTicks() {
		if impl.TickOk(x) {
			t.Errorf("TickOk(%d) is true", x)
		}
	}
}

func TestAddTick(t *testing.T) {
	const last = impl.MaxTick
	for _, c := range []struct{ t, d, want int }{
		{5, 3, 8}, {5, 0, 5}, {5, -3, 2}, {5, -5, 0}, {5, -6, 0},
		{0, 0, 0}, {0, 1, 1}, {0, -1, 0}, {1, -1, 0}, {0, last, last}, {0, -last, 0},
		{last, 0, last}, {last, 1, last}, {last, -1, last - 1}, {last, last, last}, {last, -last, 0},
		{last - 1, 1, last}, {last - 1, 2, last}, {last - 1, -last, 0}, {1, last, last},
		{500000000, 500000000, last}, {500000000, 499999999, last - 1}, {500000001, 500000000, last},
		{0, last + 1, noTick}, {0, -last - 1, noTick}, {last, last + 1, noTick}, {last, -last - 1, noTick},
		{0, math.MaxInt, noTick}, {0, math.MinInt, noTick}, {last, math.MaxInt, noTick}, {last, math.MinInt, noTick},
	} {
		if got := impl.AddTick(c.t, c.d); got != c.want {
			t.Errorf("AddTick(%d, %d) = %d, want %d", c.t, c.d, got, c.want)
		}
	}
	for _, x := range noTicks() {
		for _, d := range []int{0, 1, -1, 5, last, -last, last + 1, math.MaxInt, math.MinInt, -x} {
			if got := impl.AddTick(x, d); got != noTick {
				t.Errorf("AddTick(%d, %d) = %d, want -1", x, d, got)
			}
		}
	}
}

func TestAddingNeverTurnsOver(t *testing.T) {
	for _, a := range someTicks() {
		for _, b := range someTicks() {
			sum := impl.AddTick(a, b)
			if sum != impl.AddTick(b, a) {
				t.Errorf("AddTick of %d and %d hangs on their order", a, b)
			}
			if sum != min(a+b, impl.MaxTick) {
				t.Errorf("AddTick(%d, %d) = %d", a, b, sum)
			}
			if less := impl.AddTick(a, -b); less != max(a-b, 0) {
				t.Errorf("AddTick(%d, %d) = %d", a, -b, less)
			}
		}
	}
}

func TestSince(t *testing.T) {
	const last = impl.MaxTick
	for _, c := range []struct{ from, now, want int }{
		{5, 9, 4}, {9, 5, 0}, {7, 7, 0}, {0, 0, 0}, {0, 1, 1}, {1, 0, 0},
		{0, last, last}, {last, 0, 0}, {last, last, 0}, {last - 1, last, 1}, {last, last - 1, 0},
	} {
		if got := impl.Since(c.from, c.now); got != c.want {
			t.Errorf("Since(%d, %d) = %d, want %d", c.from, c.now, got, c.want)
		}
	}
	for _, x := range noTicks() {
		for _, y := range []int{0, 5, last, x} {
			if got := impl.Since(x, y); got != noTick {
				t.Errorf("Since(%d, %d) = %d, want -1", x, y, got)
			}
			if got := impl.Since(y, x); got != noTick {
				t.Errorf("Since(%d, %d) = %d, want -1", y, x, got)
			}
		}
	}
}

func TestDueAt(t *testing.T) {
	const last = impl.MaxTick
	for _, c := range []struct {
		from, after, now int
		want             bool
	}{
		{5, 4, 9, true}, {5, 4, 8, false}, {5, 4, 10, true}, {5, 4, 4, false},
		{0, 1, 0, false}, {0, 1, 1, true}, {0, last, last, true}, {0, last, last - 1, false},
		// The deadline stays at MaxTick, so that it is due there whatever the span is.
		{last, 1, last, true}, {last, last, last, true}, {last - 1, 2, last, true}, {last - 1, 2, last - 1, false},
		{last, 1, last - 1, false}, {1, last, last, true},
	} {
		if got := impl.DueAt(c.from, c.after, c.now); got != c.want {
			t.Errorf("DueAt(%d, %d, %d) = %t", c.from, c.after, c.now, got)
		}
	}
}

func TestNeverDueAfterNought(t *testing.T) {
	for _, from := range someTicks() {
		for _, now := range someTicks() {
			if impl.DueAt(from, 0, now) {
				t.Errorf("DueAt(%d, 0, %d) is true", from, now)
			}
		}
	}
}

func TestNotDueWithoutTicks(t *testing.T) {
	for _, x := range noTicks() {
		for _, y := range []int{1, 5, impl.MaxTick, x} {
			if impl.DueAt(x, y, impl.MaxTick) || impl.DueAt(y, x, impl.MaxTick) || impl.DueAt(0, y, x) || impl.DueAt(x, x, y) {
				t.Errorf("due with %d and %d", x, y)
			}
		}
	}
}

func TestSoonestOf(t *testing.T) {
	const last = impl.MaxTick
	for _, c := range []struct {
		list []int
		want int
	}{
		{nil, noTick}, {[]int{}, noTick}, {[]int{7, -1, 3}, 3}, {[]int{3, 7}, 3}, {[]int{7, 3}, 3},
		{[]int{0}, 0}, {[]int{5, 0, 9}, 0}, {[]int{0, 5}, 0}, {[]int{last}, last}, {[]int{last, last - 1}, last - 1},
		{[]int{last + 1, last}, last}, {[]int{-1, last + 1, math.MinInt, math.MaxInt}, noTick},
		{noTicks(), noTick}, {append(noTicks(), 12), 12}, {[]int{4, 4, 4}, 4},
		{append(repeated(9, impl.MaxList-1), 2), 2}, {repeated(9, impl.MaxList), 9},
		{repeated(-1, impl.MaxList), noTick}, {repeated(9, impl.MaxList+1), noTick},
		{append([]int{2}, repeated(-1, impl.MaxList)...), noTick},
	} {
		given := slices.Clone(c.list)
		if got := impl.SoonestOf(c.list); got != c.want {
			t.Errorf("SoonestOf(%v) = %d, want %d", c.list, got, c.want)
		}
		if !slices.Equal(given, c.list) {
			t.Errorf("SoonestOf wrote into %v", given)
		}
	}
}

func TestSumTicks(t *testing.T) {
	const last = impl.MaxTick
	for _, c := range []struct {
		list []int
		want int
	}{
		{nil, 0}, {[]int{}, 0}, {[]int{0}, 0}, {[]int{1, 2, 3}, 6}, {[]int{last}, last},
		{[]int{last - 1, 1}, last}, {[]int{last, 1}, last}, {[]int{1, last}, last}, {[]int{last, last, last}, last},
		{[]int{-1}, noTick}, {[]int{5, -1, 5}, noTick}, {[]int{last + 1}, noTick}, {[]int{5, last + 1}, noTick},
		// A number that is no tick counts behind a sum that is at its greatest, too.
		{[]int{last, last, -1}, noTick}, {[]int{last, last + 1}, noTick}, {[]int{last, -last}, noTick},
		{[]int{math.MaxInt}, noTick}, {[]int{math.MinInt}, noTick}, {[]int{math.MaxInt, math.MaxInt}, noTick},
		{repeated(2, impl.MaxList), 2 * impl.MaxList}, {repeated(last, impl.MaxList), last},
		{repeated(2, impl.MaxList+1), noTick}, {repeated(0, impl.MaxList+1), noTick},
		{append(repeated(2, impl.MaxList-1), -1), noTick},
	} {
		given := slices.Clone(c.list)
		if got := impl.SumTicks(c.list); got != c.want {
			t.Errorf("SumTicks(%v) = %d, want %d", c.list, got, c.want)
		}
		if !slices.Equal(given, c.list) {
			t.Errorf("SumTicks wrote into %v", given)
		}
		slices.Reverse(given)
		if got := impl.SumTicks(given); got != c.want {
			t.Errorf("SumTicks(%v) = %d, want %d", given, got, c.want)
		}
	}
}

func TestTickText(t *testing.T) {
	for _, c := range []struct {
		t    int
		want string
	}{
		{0, "0.000"}, {7, "0.007"}, {10, "0.010"}, {99, "0.099"}, {100, "0.100"}, {120, "0.120"}, {999, "0.999"},
		{1000, "1.000"}, {1001, "1.001"}, {12034, "12.034"}, {12340, "12.340"}, {100000, "100.000"},
		{999999999, "999999.999"}, {1000000000, "1000000.000"},
	} {
		if got := impl.TickText(c.t); got != c.want {
			t.Errorf("TickText(%d) = %q, want %q", c.t, got, c.want)
		}
	}
	for _, x := range noTicks() {
		if got := impl.TickText(x); got != "" {
			t.Errorf("TickText(%d) = %q, want an empty text", x, got)
		}
	}
}

func checkReadBack(t *testing.T, x int) {
	t.Helper()
	text := impl.TickText(x)
	if got, ok := impl.ParseTick(text); got != x || !ok {
		t.Errorf("ParseTick(%q) = %d, %t, want %d", text, got, ok, x)
	}
}

func TestTextsAreReadAsWritten(t *testing.T) {
	for x := range 3000 {
		checkReadBack(t, x)
		checkReadBack(t, impl.MaxTick-x)
	}
	for x := 0; x <= impl.MaxTick; x += 99991 {
		checkReadBack(t, x)
	}
	for _, x := range someTicks() {
		checkReadBack(t, x)
	}
}

func TestParseTickRefuses(t *testing.T) {
	for _, text := range []string{
		"", ".", "0", "000", "0000", "12034", "0.", ".000", "0.0", "0.00", "0.0000", "12.34", "12.0340",
		"00.000", "00.007", "012.034", "+0.000", "+1.000", "-0.000", "-0.001", "-1.000", "0.-01", "0.+01", "0.-1", "0.+1",
		" 0.000", "0.000 ", "0 .000", "0. 00", "0.000\n", "\t0.000", "0.000\x00", "0,000", "0:000", "0000.", ".0000", "12.034x", "x12.034",
		"0..000", "0.0.00", "0.000.", ".0.000", "1.000.000", "1203.4", "1.2034", "120.34",
		"1_0.000", "1_000.000", "0x1.000", "1e3.000", "1.0e3", "1.00e", "1.abc", "a.000", "NaN", "Inf",
		"1000000.001", "1000001.000", "1000000.999", "9999999.999", "10000000.000", "01000000.000",
		"9223372036854775.807", "9223372036854775.808", "18446744073709551.616", "18446744073709551616.000",
		"4294967.296", "99999999999999999999999999.000", "-9223372036854775.808",
		"١.000", "1.٠٠٠", "1。000", "\xff.000", strings.Repeat("0", 1000) + "1.000", strings.Repeat("9", 5000) + ".000",
		"1." + strings.Repeat("0", 1000), strings.Repeat(".", 1000),
	} {
		if got, ok := impl.ParseTick(text); got != 0 || ok {
			t.Errorf("ParseTick(%q) = %d, %t, want 0 and false", text, got, ok)
		}
	}
}

var tickForm = regexp.MustCompile(`^(0|[1-9][0-9]{0,6})\.([0-9]{3})$`)

// readTick reads a tick's text from its form alone, so that it shares nothing with the program's own way.
func readTick(text string) (int, bool) {
	parts := tickForm.FindStringSubmatch(text)
	if parts == nil {
		return 0, false
	}
	units, _ := strconv.Atoi(parts[1])
	rest, _ := strconv.Atoi(parts[2])
	t := units*1000 + rest
	if t > impl.MaxTick {
		return 0, false
	}
	return t, true
}

// nearly tells each text that is one byte more, one less, or one other than text.
func nearly(text string) []string {
	const bytes = "0123456789.-+ _,xe\n\x00\xff"
	var list []string
	for i := range len(text) + 1 {
		for j := range len(bytes) {
			list = append(list, text[:i]+bytes[j:j+1]+text[i:])
			if i < len(text) {
				list = append(list, text[:i]+bytes[j:j+1]+text[i+1:])
			}
		}
		if i < len(text) {
			list = append(list, text[:i]+text[i+1:])
		}
	}
	return list
}

func TestParseTickOfNearlyTexts(t *testing.T) {
	for _, x := range someTicks() {
		for _, text := range nearly(impl.TickText(x)) {
			want, wantOk := readTick(text)
			if got, ok := impl.ParseTick(text); got != want || ok != wantOk {
				t.Errorf("ParseTick(%q) = %d, %t, want %d, %t", text, got, ok, want, wantOk)
			}
			if wantOk && impl.TickText(want) != text {
				t.Errorf("TickText(%d) = %q, want %q", want, impl.TickText(want), text)
			}
		}
	}
}
