package tests

import (
	"math"
	"regexp"
	"slices"
	"strconv"
	"strings"
	"testing"

	"loop.example/g00728/impl"
)

// setupBounds are the least and the most of each number of a setup, in their order.
func setupBounds() [][2]int {
	return [][2]int{{1, 6}, {1, 4}, {1, 1000}, {0, 1000}, {0, 1000}, {1, 20}, {1, 20}, {1, 20}, {1, 40}}
}

// aSetup is written by names, so that a number that stands in another's place is found.
func aSetup(n []int) impl.Setup {
	var s impl.Setup
	s.Sources, s.Shards, s.Size = n[0], n[1], n[2]
	s.Late, s.IdleAfter = n[3], n[4]
	s.CapIn, s.CapShard, s.CapOut = n[5], n[6], n[7]
	s.Room = n[8]
	return s
}

func numbersText(n []int) string {
	text := ""
	for i, x := range n {
		if i > 0 {
			text += " "
		}
		text += strconv.Itoa(x)
	}
	return text
}

// ground are setups in which one number can be changed: an ordinary one, the least and the greatest.
func ground() [][]int {
	list := [][]int{{3, 2, 10, 2, 5, 4, 3, 2, 20}, {}, {}}
	for _, b := range setupBounds() {
		list[1] = append(list[1], b[0])
		list[2] = append(list[2], b[1])
	}
	return list
}

func changed(n []int, place int, x int) []int {
	list := slices.Clone(n)
	list[place] = x
	return list
}

// someNumbers are numbers of setups: every number at both of its ends, next to them, and many between.
func someNumbers() [][]int {
	list := ground()
	for place, b := range setupBounds() {
		for _, n := range ground() {
			for _, x := range []int{b[0], b[0] + 1, (b[0] + b[1]) / 2, b[1] - 1, b[1]} {
				list = append(list, changed(n, place, x))
			}
		}
	}
	next := stir(6)
	for range 300 {
		var n []int
		for _, b := range setupBounds() {
			n = append(n, b[0]+next(b[1]-b[0]+1))
		}
		list = append(list, n)
	}
	return list
}

// noNumbers are none of setups: one number is out of its bounds, by one or by more.
func noNumbers() [][]int {
	list := [][]int{make([]int, 9)}
	for place, b := range setupBounds() {
		for _, n := range ground() {
			for _, x := range []int{b[0] - 1, b[1] + 1, -1, -b[1], 10 * b[1], 1001, 1<<32 + b[1], -1 << 32, math.MaxInt, math.MinInt} {
				list = append(list, changed(n, place, x))
			}
		}
	}
	return list
}

// noShardCounts are no numbers of shards.
func noShardCounts() []int {
	return []int{0, -1, -2, -4, 5, 6, 8, 1 << 32, 1<<32 + 1, math.MaxInt, math.MinInt}
}

func TestSetupOk(t *testing.T) {
	for _, n := range someNumbers() {
		if !impl.SetupOk(aSetup(n)) {
			t.Errorf("SetupOk of %v is false", n)
		}
	}
	for _, n := range noNumbers() {
		if impl.SetupOk(aSetup(n)) {
			t.Errorf("SetupOk of %v is true", n)
		}
	}
}

func TestDefaultSetup(t *testing.T) {
	want := impl.Setup{Sources: 3, Shards: 2, Size: 10, Late: 2, IdleAfter: 5, CapIn: 4, CapShard: 3, CapOut: 2, Room: 20}
	got := impl.DefaultSetup()
	if got != want || !impl.SetupOk(got) {
		t.Errorf("DefaultSetup() = %v, want %v", got, want)
	}
}

func TestSetupText(t *testing.T) {
	for _, c := range []struct {
		s    impl.Setup
		want string
	}{
		{impl.DefaultSetup(), "3 2 10 2 5 4 3 2 20"},
		{impl.Setup{Sources: 1, Shards: 1, Size: 1, CapIn: 1, CapShard: 1, CapOut: 1, Room: 1}, "1 1 1 0 0 1 1 1 1"},
		{impl.Setup{Sources: 6, Shards: 4, Size: 1000, Late: 1000, IdleAfter: 1000, CapIn: impl.MaxCap, CapShard: impl.MaxCap, CapOut: impl.MaxCap, Room: impl.MaxAggs},
			"6 4 1000 1000 1000 20 20 20 40"},
		{impl.Setup{Sources: 1, Shards: 2, Size: 3, Late: 4, IdleAfter: 5, CapIn: 6, CapShard: 7, CapOut: 8, Room: 9}, "1 2 3 4 5 6 7 8 9"},
	} {
		if got, ok := impl.SetupText(c.s); got != c.want || !ok {
			t.Errorf("SetupText(%v) = %q, %t, want %q", c.s, got, ok, c.want)
		}
	}
	for _, n := range someNumbers() {
		if got, ok := impl.SetupText(aSetup(n)); got != numbersText(n) || !ok {
			t.Errorf("SetupText of %v = %q, %t", n, got, ok)
		}
	}
	for _, n := range noNumbers() {
		if got, ok := impl.SetupText(aSetup(n)); got != "" || ok {
			t.Errorf("SetupText of %v = %q, %t, want an empty text and false", n, got, ok)
		}
	}
}

func TestSetupsAreReadAsWritten(t *testing.T) {
	for _, n := range someNumbers() {
		text, _ := impl.SetupText(aSetup(n))
		if got, ok := impl.ParseSetup(text); got != aSetup(n) || !ok {
			t.Errorf("ParseSetup(%q) = %v, %t, want %v", text, got, ok, n)
		}
	}
}

func checkNoSetup(t *testing.T, text string) {
	t.Helper()
	if got, ok := impl.ParseSetup(text); got != (impl.Setup{}) || ok {
		t.Errorf("ParseSetup(%q) = %v, %t, want the zero value and false", text, got, ok)
	}
}

func TestParseSetupRefusesNumbersOutOfBounds(t *testing.T) {
	for _, n := range noNumbers() {
		checkNoSetup(t, numbersText(n))
	}
	// Numbers that come to fitting ones where they turn over, or where what is too great is cut.
	for _, x := range []string{"4294967299", "18446744073709551619", "18446744073709551617", "36893488147419103235", "-18446744073709551613",
		"340282366920938463463374607431768211459", strings.Repeat("9", 5000), "3" + strings.Repeat("0", 5000), "1" + strings.Repeat("0", 64) + "3"} {
		for place := range setupBounds() {
			words := strings.Fields("3 2 10 2 5 4 3 2 20")
			words[place] = x
			checkNoSetup(t, strings.Join(words, " "))
		}
	}
}

// Each word of a text that is fine is written in another way that means the same, or nothing.
func TestParseSetupRefusesOtherWords(t *testing.T) {
	for _, n := range ground() {
		for place, x := range n {
			word := strconv.Itoa(x)
			for _, other := range []string{"+" + word, "-" + word, "0" + word, "00" + word, strings.Repeat("0", 1000) + word, word + ".", word + ".0", word + "e0",
				"0x" + word, "0b1", "0o1", word + "_", "_" + word, "1_0", word + ",", word + "x", "x" + word, "x", "", "-", "+", "-0", "+0", " " + word, word + " ", "\t" + word, word + "\n",
				word + "\r", word + "\x00", word + "\xff", "\xff", "\xc3\x28", "\xe2\x82" + word, "\xed\xa0\x80", "\ufffd", "٣", "３", "²", "½", "①", "\u00a0" + word, "\u3000" + word, "\ufeff" + word} {
				words := strings.Fields(numbersText(n))
				words[place] = other
				checkNoSetup(t, strings.Join(words, " "))
			}
		}
	}
}

func TestParseSetupRefuses(t *testing.T) {
	const fine = "3 2 10 2 5 4 3 2 20"
	for _, text := range []string{
		"", " ", "0", "3", strings.Repeat(" ", 8), strings.Repeat(" ", 9), "3 2 10 2 5 4 3 2", "3 2 10 2 5 4 3 2 ", " 2 10 2 5 4 3 2 20",
		fine + " 1", fine + " 0", fine + " 20", fine + " " + fine, "3 " + fine, fine + fine, fine + strings.Repeat(" 1", 500),
		" " + fine, fine + " ", "  " + fine, fine + "\n", "\n" + fine, fine + "\x00", fine + "\xff", "\xff" + fine, fine + ".",
		strings.ReplaceAll(fine, " ", "  "), strings.ReplaceAll(fine, " ", ""), strings.ReplaceAll(fine, " ", "\t"), strings.ReplaceAll(fine, " ", ","),
		strings.ReplaceAll(fine, " ", "\u00a0"), strings.ReplaceAll(fine, " ", "\xa0"), strings.ReplaceAll(fine, " ", "\x00"),
		// Two blanks make a word without a letter: Late and IdleAfter could be 0 there.
		"3 2 10  5 4 3 2 20", "3 2 10 2  4 3 2 20", "3 2 10   4 3 2 20",
		"setup " + fine, "{" + fine + "}", strings.Repeat("1", 100000), strings.Repeat("1 ", 50000), strings.Repeat("\xff", 1000),
	} {
		checkNoSetup(t, text)
	}
}

var setupForm = regexp.MustCompile(`^(?:(?:0|[1-9][0-9]{0,3}) ){8}(?:0|[1-9][0-9]{0,3})$`)

// readSetup reads a setup's text from its form alone, so that it shares nothing with the program's own way.
func readSetup(text string) (impl.Setup, bool) {
	if !setupForm.MatchString(text) {
		return impl.Setup{}, false
	}
	var n []int
	for i, word := range strings.Split(text, " ") {
		x, _ := strconv.Atoi(word)
		if b := setupBounds()[i]; x < b[0] || x > b[1] {
			return impl.Setup{}, false
		}
		n = append(n, x)
	}
	return aSetup(n), true
}

func TestParseSetupOfNearlyTexts(t *testing.T) {
	read := 0
	for _, n := range append(ground(), []int{1, 2, 3, 4, 5, 6, 7, 8, 9}, []int{6, 4, 999, 0, 100, 19, 10, 9, 39}) {
		for _, text := range nearly(numbersText(n)) {
			want, wantOk := readSetup(text)
			if got, ok := impl.ParseSetup(text); got != want || ok != wantOk {
				t.Errorf("ParseSetup(%q) = %v, %t, want %v, %t", text, got, ok, want, wantOk)
			}
			if again, _ := impl.SetupText(want); wantOk {
				read++
				if again != text {
					t.Errorf("SetupText(%v) = %q, want %q", want, again, text)
				}
			}
		}
	}
	if read == 0 {
		t.Error("none of the texts was one of a setup")
	}
}

func TestShardOf(t *testing.T) {
	for _, c := range []struct{ key, shards, want int }{
		{0, 1, 0}, {0, 2, 0}, {0, 3, 0}, {0, 4, 0},
		// 40503 / 64 is 632.
		{1, 1, 0}, {1, 2, 0}, {1, 3, 2}, {1, 4, 0},
		// 81006 - 65536 is 15470, and that by 64 is 241.
		{2, 1, 0}, {2, 2, 1}, {2, 3, 1}, {2, 4, 1},
		// 65535 - 40503 + 1 is 25033, and that by 64 is 391.
		{impl.MaxKey, 1, 0}, {impl.MaxKey, 2, 1}, {impl.MaxKey, 3, 1}, {impl.MaxKey, 4, 3},
		// 32767 times 40503 leaves 57801, and that by 64 is 903.
		{32767, 1, 0}, {32767, 2, 1}, {32767, 3, 0}, {32767, 4, 3},
	} {
		if got := impl.ShardOf(c.key, c.shards); got != c.want {
			t.Errorf("ShardOf(%d, %d) = %d, want %d", c.key, c.shards, got, c.want)
		}
	}
}

func TestShardOfRefuses(t *testing.T) {
	for _, key := range []int{-1, -2, -64, -impl.MaxKey, impl.MaxKey + 1, impl.MaxKey + 2, 1 << 17, 1 << 32, math.MaxInt, math.MinInt} {
		for _, shards := range []int{1, 2, 3, 4, 0, 5} {
			if got := impl.ShardOf(key, shards); got != -1 {
				t.Errorf("ShardOf(%d, %d) = %d, want -1", key, shards, got)
			}
		}
	}
	for _, shards := range noShardCounts() {
		for _, key := range []int{0, 1, 5, impl.MaxKey, -1} {
			if got := impl.ShardOf(key, shards); got != -1 {
				t.Errorf("ShardOf(%d, %d) = %d, want -1", key, shards, got)
			}
		}
	}
}

// allKeysOf sums up each key's spread number step by step, and keeps the keys of each shard.
func allKeysOf(shards int) [][]int {
	keys := make([][]int, shards)
	spread := uint16(0)
	for key := range impl.MaxKey + 1 {
		shard := int(spread>>6) % shards
		keys[shard] = append(keys[shard], key)
		spread += 40503
	}
	return keys
}

func TestEachKeyHasOneShard(t *testing.T) {
	for shards := 1; shards <= 4; shards++ {
		have := make([]int, impl.MaxKey+1)
		for shard, keys := range allKeysOf(shards) {
			if len(keys) < 10000 {
				t.Errorf("shard %d of %d has but %d keys", shard, shards, len(keys))
			}
			for _, key := range keys {
				have[key]++
				if got := impl.ShardOf(key, shards); got != shard {
					t.Fatalf("ShardOf(%d, %d) = %d, want %d", key, shards, got, shard)
				}
			}
		}
		if slices.Min(have) != 1 || slices.Max(have) != 1 {
			t.Errorf("of %d shards a key has none or several", shards)
		}
	}
}

func TestKeysOf(t *testing.T) {
	for shards := 1; shards <= 4; shards++ {
		for shard, keys := range allKeysOf(shards) {
			for _, n := range []int{0, 1, 2, 3, 10, 100, impl.MaxList - 1, impl.MaxList} {
				got := impl.KeysOf(shard, shards, n)
				if !slices.Equal(got, keys[:n]) {
					t.Errorf("KeysOf(%d, %d, %d) = %v, want %v", shard, shards, n, got, keys[:n])
				}
			}
		}
	}
}

// The keys that are named are all that there are up to the last one: none is left out, and none is in two shards.
func TestKeysOfShareOutTheKeys(t *testing.T) {
	for shards := 1; shards <= 4; shards++ {
		var all []int
		last := impl.MaxKey
		for shard := range shards {
			keys := impl.KeysOf(shard, shards, impl.MaxList)
			if len(keys) != impl.MaxList || !slices.IsSorted(keys) {
				t.Fatalf("KeysOf(%d, %d, %d) = %v", shard, shards, impl.MaxList, keys)
			}
			last = min(last, keys[len(keys)-1])
			all = append(all, keys...)
		}
		slices.Sort(all)
		for key := range last + 1 {
			if all[key] != key {
				t.Fatalf("of %d shards, the keys up to %d are %v", shards, last, all[:last+1])
			}
		}
	}
}

func TestKeysOfRefuses(t *testing.T) {
	check := func(shard int, shards int, n int) {
		if got := impl.KeysOf(shard, shards, n); len(got) != 0 {
			t.Errorf("KeysOf(%d, %d, %d) = %v, want nothing", shard, shards, n, got)
		}
	}
	for _, shards := range noShardCounts() {
		for _, shard := range []int{0, 1, 3, 4, -1, shards, shards - 1} {
			check(shard, shards, 3)
		}
	}
	for shards := 1; shards <= 4; shards++ {
		for _, shard := range []int{-1, -2, shards, shards + 1, 4, 1 << 32, math.MaxInt, math.MinInt} {
			check(shard, shards, 3)
			check(shard, shards, impl.MaxList)
		}
		for shard := range shards {
			for _, n := range []int{-1, -2, -impl.MaxList, impl.MaxList + 1, impl.MaxList + 2, impl.MaxKey, 1 << 32, math.MaxInt, math.MinInt} {
				check(shard, shards, n)
			}
		}
	}
}

func TestKeysOfAreNewMemory(t *testing.T) {
	first := impl.KeysOf(1, 3, 5)
	want := slices.Clone(first)
	clear(first[:cap(first)])
	if got := impl.KeysOf(1, 3, 5); len(got) != 5 || !slices.Equal(got, want) {
		t.Errorf("KeysOf(1, 3, 5) = %v, want %v", got, want)
	}
}

func TestLinkRoom(t *testing.T) {
	for _, c := range []struct{ shards, in, shard, out, want int }{
		{2, 4, 3, 2, 12}, {1, 1, 1, 1, 3}, {4, 20, 20, 20, 120}, {4, 1, 1, 1, 6}, {1, 20, 20, 20, 60},
		{1, 20, 1, 1, 22}, {1, 1, 20, 1, 22}, {1, 1, 1, 20, 22}, {3, 5, 7, 11, 37},
	} {
		s := impl.DefaultSetup()
		s.Shards, s.CapIn, s.CapShard, s.CapOut = c.shards, c.in, c.shard, c.out
		if got := impl.LinkRoom(s); got != c.want {
			t.Errorf("LinkRoom(%v) = %d, want %d", s, got, c.want)
		}
	}
	for _, n := range someNumbers() {
		if got := impl.LinkRoom(aSetup(n)); got != n[5]+n[1]*n[6]+n[7] {
			t.Errorf("LinkRoom of %v = %d", n, got)
		}
	}
	for _, n := range noNumbers() {
		if got := impl.LinkRoom(aSetup(n)); got != -1 {
			t.Errorf("LinkRoom of %v = %d, want -1", n, got)
		}
	}
}
