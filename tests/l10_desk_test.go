package tests

import (
	"fmt"
	"math"
	"regexp"
	"slices"
	"strconv"
	"strings"
	"testing"

	"loop.example/g00728/impl"
)

const mostNumber = 9999999999

// verbs are the words of the lines that are ops, with how many numbers each names.
func verbs() map[string]int {
	return map[string]int{
		"tick": 1, "open": 0, "event": 4, "mark": 2, "bye": 1, "close": 1, "read": 1, "route": 0, "shard": 1, "sink": 1, "end": 0,
	}
}

// someLines are lines of each kind with their ops.
func someLines() map[string]impl.Op {
	return map[string]impl.Op{
		"tick 0": opTick(0), "tick 1": opTick(1), "tick 1000": opTick(1000), "tick 1001": opTick(1001), "tick -1": opTick(-1),
		"open":          opOpen(),
		"event 0 1 3 5": opFeed(0, event(1, 3, 5)), "event 2 258 7 -1": opFeed(2, event(258, 7, -1)), "event 0 0 0 0": opFeed(0, event(0, 0, 0)),
		"event 11 65535 1000000 1000000": opFeed(11, event(impl.MaxKey, impl.MaxTime, impl.MaxValue)),
		"event -7 0 0 -1000000":          opFeed(-7, event(0, 0, -impl.MaxValue)),
		"mark 0 9":                       opFeed(0, mark(9)), "mark 3 0": opFeed(3, mark(0)), "mark -1 1000000": opFeed(-1, mark(impl.MaxTime)),
		"bye 0": opFeed(0, bye()), "bye 5": opFeed(5, bye()), "bye -5": opFeed(-5, bye()),
		"close 0": opClose(0), "close 12": opClose(12), "close -3": opClose(-3),
		"read 0": opRead(0), "read 2": opRead(2), "read -1": opRead(-1),
		"route":   opRoute(),
		"shard 0": opShard(0), "shard 3": opShard(3), "shard -4": opShard(-4),
		"sink 0": opSink(0), "sink 1": opSink(1), "sink 2": opSink(2), "sink -1": opSink(-1),
		"end": opEnd(),
	}
}

// noLines are none of the kinds of lines.
func noLines() []string {
	list := []string{
		"", " ", "  ", "foo", "x", "0", "1 open", "Open", "OPEN", "opens", "ope", "o", "open0", "open 0", "open 0 0", "opén",
		" open", "open ", "  open", "open  ", "\topen", "open\t", "open\r", "\ropen", "open\x00", "\x00open", "open\n", "\nopen", "open\nopen", "open,",
		"tick", "tick ", "tick 1 ", "tick  1", " tick 1", "tick\t1", "tick 1\t", "tick\n1", "tick 1\n", "tick 1\r", "tick 1 1", "tick 1 0", "tick1", "tick x",
		"tick\u00a01", "tick １", "tick ٣", "tock 1", "tick,1", "tick 1,", "tick one", "Tick 1",
		"event", "event 0", "event 0 1", "event 0 1 3", "event 0 1 3 ", "event 0 1  3", "event 0 1 3 5 7", "event 0 1 3 5 ", "event 0 1 3 5 0", "event  0 1 3 5", "event 0 1 3  5",
		"event 0 1 3 x", "event 0 x 3 5", "event x 1 3 5", "event 0 1 x 5", "event 0 1 3 -", "event 0 1 3 -0", "event 0 01 3 5", "events 0 1 3 5",
		"mark", "mark 0", "mark 0 ", "mark 0  9", "mark 0 9 ", "mark 0 9 9", "mark  0 9", "mark 0 x", "mark x 9", "mark 0 09", "marks 0 9", "mark 9,0",
		"bye", "bye ", "bye 0 ", "bye  0", "bye 0 0", "bye x", "bye 00", "goodbye 0",
		"close", "close ", "close 0 0", "close x", "read", "read ", "read 0 0", "read x", "route ", "route 0", "routes", "shard", "shard ", "shard 0 0", "shard x",
		"sink", "sink ", "sink 1 1", "sink x", "end ", "end 0", "ends", "state ", " state", "state 0", "State", "states", "round ", " round", "round 1", "rounds", "Round",
		"setup", "setup ", "setup 3 2 10 2 5 4 3 2 20", "setup 1", "ok", "idle", "bad", "runs", "feed 0", "tick 1; open", "open; open",
	}
	for word := range verbs() {
		// Whatever stands behind, there are too many words.
		list = append(list, word+" 1 1 1 1 1", word+" 1 1 1 1 1 ", word+" "+word, word+word, word+"\u2028", word+" \n")
	}
	return list
}

// someWords are numbers, and what they are.
func someWords() map[string]int {
	list := map[string]int{"0": 0, "1234567890": 1234567890, "-1234567890": -1234567890, "-1000000000": -1000000000, "-2147483649": -2147483649, "4294967296": 4294967296}
	for x := 1; x <= mostNumber; x = 10*x + 9 {
		for _, y := range []int{x, -x, x - x/2, x/10 + 1, -(x/10 + 1)} {
			list[strconv.Itoa(y)] = y
		}
	}
	return list
}

// noWords are no numbers.
func noWords() []string {
	return []string{
		"", "-", "--1", "-0", "00", "01", "-01", "007", "0000000000", "00000000001", "0123456789", "-0123456789", "+1", "+0", "1-", "1-1", "- 1", "1.0", "1.", ".1", "1e3", "0x1", "0b1",
		"1_0", "1,0", "a", "x", "1a", "a1", "١", "１", "−1", "1\n", "1\r", "1\t", "\x001", "1\x00", "NaN", "Inf", "true", "nil", "''", "\"1\"",
		"10000000000", "-10000000000", "99999999999", "12345678901", "-12345678901", "9223372036854775807", "-9223372036854775808", "9223372036854775808",
		"18446744073709551616", "18446744073709551617", "99999999999999999999999999",
	}
}

// lineForm is the form of all lines that are ops.
var lineForm = regexp.MustCompile(`^[a-z]+( (0|-?[1-9][0-9]{0,9}))*$`)

// readPlainly reads a line by its form, and then by its verb.
func readPlainly(line string) (impl.Op, bool) {
	if !lineForm.MatchString(line) || len(line) > impl.MaxLineBytes || strings.Contains(line, "\n") {
		return impl.Op{}, false
	}
	words := strings.Split(line, " ")
	names, known := verbs()[words[0]]
	if !known || len(words) != names+1 {
		return impl.Op{}, false
	}
	n := make([]int, 5)
	for i, word := range words[1:] {
		n[i], _ = strconv.Atoi(word)
	}
	if f, feeds := framesOfVerbs(n)[words[0]]; feeds {
		return opFeed(n[0], f), impl.FrameOk(f)
	}
	kind := slices.Index([]string{"tick", "open", "", "close", "read", "route", "shard", "sink", "end"}, words[0])
	return impl.Op{Kind: kind, A: n[0]}, true
}

func framesOfVerbs(n []int) map[string]impl.Frame {
	return map[string]impl.Frame{"event": event(n[1], n[2], n[3]), "mark": mark(n[1]), "bye": bye()}
}

func checkLine(t *testing.T, line string, want impl.Op) {
	t.Helper()
	o, ok := impl.ParseLine(line)
	if !ok || !sameOps([]impl.Op{o}, []impl.Op{want}) {
		t.Errorf("ParseLine(%q) = %v, %t, want %v", line, o, ok, want)
	}
	if got, ok := impl.OpLine(want); !ok || got != line {
		t.Errorf("OpLine(%v) = %q, %t, want %q", want, got, ok, line)
	}
}

func checkNoLine(t *testing.T, line string) {
	t.Helper()
	o, ok := impl.ParseLine(line)
	if ok || o.Kind != 0 || o.A != 0 || o.B != 0 || len(o.Data) != 0 {
		t.Errorf("ParseLine(%q) = %v, %t", line, o, ok)
	}
}

func checkNoOpLine(t *testing.T, o impl.Op) {
	t.Helper()
	if got, ok := impl.OpLine(o); ok || got != "" {
		t.Errorf("OpLine(%v) = %q, %t", o, got, ok)
	}
}

func TestLines(t *testing.T) {
	seen := map[string]bool{}
	for line, op := range someLines() {
		checkLine(t, line, op)
		seen[strings.Fields(line)[0]] = true
	}
	if len(seen) != len(verbs()) {
		t.Errorf("%d verbs, want %d", len(seen), len(verbs()))
	}
	o, ok := impl.ParseLine("event 0 1 3 -5")
	if !ok || o.Kind != 2 || o.A != 0 || o.B != 0 || !slices.Equal(o.Data, impl.PutFrame(event(1, 3, -5))) {
		t.Errorf("%v, %t", o, ok)
	}
	for _, f := range someFrames() {
		line := map[int]string{
			impl.FrameEvent: fmt.Sprint("event 4 ", f.Key, " ", f.Time, " ", f.Value), impl.FrameMark: fmt.Sprint("mark 4 ", f.Time), impl.FrameBye: "bye 4",
		}[f.Kind]
		checkLine(t, line, opFeed(4, f))
	}
}

func TestNoLines(t *testing.T) {
	for _, line := range append(noLines(), "state", "round") {
		checkNoLine(t, line)
	}
	// A line is none with anything ahead or behind it.
	for line := range someLines() {
		for _, x := range []string{" ", "\n", "\r", "\t", "\x00", "a", "-", ".", "\xff", "ä", " 0", " -"} {
			checkNoLine(t, line+x)
			checkNoLine(t, x+line)
		}
		checkNoLine(t, strings.ToUpper(line))
		if strings.Contains(line, " ") {
			checkNoLine(t, strings.Replace(line, " ", "  ", 1))
			checkNoLine(t, strings.Replace(line, " ", "\t", 1))
			checkNoLine(t, strings.ReplaceAll(line, " ", ""))
		}
	}
}

// withNumber are the lines in which a number of any size may stand, with that one.
func withNumber(word string) []string {
	return []string{
		"tick " + word, "event " + word + " 1 3 5", "mark " + word + " 9", "bye " + word, "close " + word, "read " + word, "shard " + word, "sink " + word,
	}
}

func TestNumbersOfLines(t *testing.T) {
	for word, x := range someWords() {
		for i, want := range []impl.Op{
			opTick(x), opFeed(x, event(1, 3, 5)), opFeed(x, mark(9)), opFeed(x, bye()), opClose(x), opRead(x), opShard(x), opSink(x),
		} {
			checkLine(t, withNumber(word)[i], want)
		}
	}
	for _, word := range noWords() {
		for _, line := range withNumber(word) {
			checkNoLine(t, line)
		}
		for _, line := range []string{"event 0 " + word + " 3 5", "event 0 1 " + word + " 5", "event 0 1 3 " + word, "mark 0 " + word} {
			checkNoLine(t, line)
		}
	}
}

// The numbers of a frame must be those of one that is FrameOk; each bound that is met is good.
func TestLinesOfFrames(t *testing.T) {
	for _, x := range []int{0, 1, impl.MaxKey - 1, impl.MaxKey} {
		checkLine(t, fmt.Sprintf("event 1 %d 2 3", x), opFeed(1, event(x, 2, 3)))
	}
	for _, x := range []int{-1, impl.MaxKey + 1, -impl.MaxKey, 65536 * 256, mostNumber, -mostNumber} {
		checkNoLine(t, fmt.Sprintf("event 1 %d 2 3", x))
	}
	for _, x := range []int{0, 1, impl.MaxTime - 1, impl.MaxTime} {
		checkLine(t, fmt.Sprintf("event 1 2 %d 3", x), opFeed(1, event(2, x, 3)))
		checkLine(t, fmt.Sprintf("mark 1 %d", x), opFeed(1, mark(x)))
	}
	for _, x := range []int{-1, impl.MaxTime + 1, -impl.MaxTime, 16777216, mostNumber, -mostNumber} {
		checkNoLine(t, fmt.Sprintf("event 1 2 %d 3", x))
		checkNoLine(t, fmt.Sprintf("mark 1 %d", x))
	}
	for _, x := range []int{-impl.MaxValue, 1 - impl.MaxValue, -1, 0, 1, impl.MaxValue} {
		checkLine(t, fmt.Sprintf("event 1 2 3 %d", x), opFeed(1, event(2, 3, x)))
	}
	for _, x := range []int{-impl.MaxValue - 1, impl.MaxValue + 1, 15777216, 16777216, mostNumber, -mostNumber} {
		checkNoLine(t, fmt.Sprintf("event 1 2 3 %d", x))
	}
}

// ofBytes are texts of n bytes that begin as lines do.
func ofBytes(n int) []string {
	list := []string{strings.Repeat("x", n), strings.Repeat(" ", n), "open" + strings.Repeat(" ", n-4)}
	for line := range someLines() {
		list = append(list, line+strings.Repeat(" ", n-len(line)), line+" "+strings.Repeat("1", n-len(line)-1), strings.Repeat(" ", n-len(line))+line)
	}
	return append(list, "tick "+strings.Repeat("0", n-6)+"1", "event"+strings.Repeat(" 1", (n-5)/2)+strings.Repeat("1", (n-5)%2))
}

// No line of any kind is so long: as long as one may be, it is none as well.
func TestLongLines(t *testing.T) {
	for _, n := range []int{impl.MaxLineBytes - 1, impl.MaxLineBytes, impl.MaxLineBytes + 1, 2 * impl.MaxLineBytes} {
		for _, line := range ofBytes(n) {
			if len(line) != n {
				t.Fatalf("%q has %d bytes", line, len(line))
			}
			checkNoLine(t, line)
			checkTold(t, "open\n"+line+"\ntick 1\n", "ok\nbad\nok\n")
			checkTold(t, line, "bad\n")
		}
	}
	for _, n := range []int{1 << 16, 1 << 20} {
		for _, line := range ofBytes(n) {
			checkNoLine(t, line)
		}
	}
}

// An op 2 has a line only when its Data are just one frame.
func TestNoLineOfOtherData(t *testing.T) {
	one := bytesOf(event(1, 3, 5))
	list := [][]byte{
		nil, {}, {0}, {1}, {9}, {14}, bent(), one[1:], append([]byte{0}, one...), append(bent(), one...), append(slices.Clone(one), bent()...),
		withCheck(4), withCheck(0), withCheck(3, 0), withCheck(2, 0, 0), withCheck(1, 0, 1, 0, 0, 1, 0, 0), withCheck(2, 255, 255, 255), withCheck(),
		make([]byte, 14), make([]byte, impl.MaxBuf), make([]byte, impl.MaxBuf+1), slices.Repeat(one, 1000),
	}
	for _, f := range []impl.Frame{event(1, 3, 5), mark(9), bye(), event(impl.MaxKey, impl.MaxTime, impl.MaxValue)} {
		b := bytesOf(f)
		for n := range b {
			list = append(list, b[:n])
			for bit := range 8 {
				turned := slices.Clone(b)
				turned[n] ^= 1 << bit
				list = append(list, turned)
			}
		}
		for x := range 256 {
			list = append(list, append(slices.Clone(b), byte(x)))
		}
		for _, g := range []impl.Frame{event(1, 3, 5), mark(9), bye()} {
			list = append(list, bytesOf(f, g), bytesOf(f, g, f))
		}
	}
	for _, b := range list {
		checkNoOpLine(t, opBytes(0, b))
		checkNoOpLine(t, opBytes(7, b))
	}
	for _, f := range noFrames() {
		checkNoOpLine(t, opBytes(0, impl.PutFrame(f)))
	}
}

// A line names all that is not 0 or empty; what it can't name leaves an op without one.
func TestNoLineOfOtherFields(t *testing.T) {
	for _, op := range someLines() {
		for _, x := range []int{1, -1, 2, 14, mostNumber, math.MaxInt, math.MinInt} {
			other := op
			other.B = x
			checkNoOpLine(t, other)
		}
		if op.Kind != 2 {
			for _, b := range [][]byte{{0}, {1}, bent(), bytesOf(event(1, 3, 5)), bytesOf(mark(9)), bytesOf(bye())} {
				other := op
				other.Data = b
				checkNoOpLine(t, other)
			}
			// Empty and nil are the same.
			empty := op
			empty.Data = []byte{}
			line, ok := impl.OpLine(op)
			if got, okToo := impl.OpLine(empty); got != line || okToo != ok {
				t.Errorf("OpLine(%v) = %q, %t", empty, got, okToo)
			}
		}
		for _, kind := range []int{-1, -2, 9, 10, 11, 12, 13, 255, 256, math.MaxInt, math.MinInt} {
			other := op
			other.Kind = kind
			checkNoOpLine(t, other)
		}
		for _, x := range []int{mostNumber + 1, -mostNumber - 1, 10 * mostNumber, 1 << 40, -1 << 40, math.MaxInt, math.MinInt} {
			other := op
			other.A = x
			checkNoOpLine(t, other)
		}
		for _, x := range []int{1, -1, 5, mostNumber} {
			other := op
			other.A = x
			if slices.Contains([]int{1, 5, 8}, op.Kind) {
				checkNoOpLine(t, other)
			} else if _, ok := impl.OpLine(other); !ok {
				t.Errorf("%v has no line", other)
			}
		}
	}
}

// An op that has a line is read from it as it was, and a line that is read is the one of its op (promise 11).
func TestLinesReadBack(t *testing.T) {
	next := stir(10)
	letters := []string{"0", "1", "9", "-", " ", "  ", "x", "\n", "", "00", "1000000", "65535", "65536"}
	had, read := 0, 0
	lines := slices.Sorted(func(yield func(string) bool) {
		for line := range someLines() {
			if !yield(line) {
				return
			}
		}
	})
	for i := range 40000 {
		line := lines[next(len(lines))]
		for range next(4) {
			from := next(len(line) + 1)
			to := min(len(line), from+next(2))
			line = line[:from] + letters[next(len(letters))] + line[to:]
		}
		want, wantOk := readPlainly(line)
		o, ok := impl.ParseLine(line)
		if ok != wantOk || ok && !sameOps([]impl.Op{o}, []impl.Op{want}) {
			t.Fatalf("ParseLine(%q) = %v, %t, want %v, %t", line, o, ok, want, wantOk)
		}
		if ok {
			read++
			if again, okToo := impl.OpLine(o); !okToo || again != line {
				t.Fatalf("OpLine(%v) = %q, %t, read from %q", o, again, okToo, line)
			}
		} else {
			checkNoLine(t, line)
		}
		op := anOp(next, i%300)
		if line, ok := impl.OpLine(op); ok {
			had++
			if again, okToo := impl.ParseLine(line); !okToo || !sameOps([]impl.Op{again}, []impl.Op{op}) {
				t.Fatalf("ParseLine(%q) = %v, %t, the line of %v", line, again, okToo, op)
			}
		} else if line != "" {
			t.Fatalf("OpLine(%v) = %q, %t", op, line, ok)
		}
	}
	if had < 10000 || read < 5000 {
		t.Errorf("%d ops had lines, %d lines were read", had, read)
	}
}

func checkTold(t *testing.T, text string, want string) {
	t.Helper()
	if got, ok := impl.RunDesk(text); !ok || got != want {
		t.Errorf("RunDesk(%q) = %q, %t, want %q", text, got, ok, want)
	}
}

func checkNoTalk(t *testing.T, what string, text string) {
	t.Helper()
	if got, ok := impl.RunDesk(text); ok || got != "" {
		t.Errorf("%s: RunDesk tells %d bytes, %t", what, len(got), ok)
	}
	if e, ok := impl.DeskEnd(text); ok || !sameEngine(e, impl.Engine{}) {
		t.Errorf("%s: DeskEnd is %+v, %t", what, e, ok)
	}
}

// checkEnd: the desk's engine is the one that plays the ops.
func checkEnd(t *testing.T, text string, s impl.Setup, ops ...impl.Op) {
	t.Helper()
	want, _, _, _ := impl.PlayEngine(s, ops)
	if e, ok := impl.DeskEnd(text); !ok || !sameEngine(e, want) {
		t.Errorf("DeskEnd(%q) = %+v, %t, want %+v", text, e, ok, want)
	}
}

// checkDialog: each line tells what stands beside it.
func checkDialog(t *testing.T, dialog [][2]string) string {
	t.Helper()
	text := ""
	for _, pair := range dialog {
		text += pair[0] + "\n"
	}
	told, ok := impl.RunDesk(text)
	answers := strings.SplitAfter(told, "\n")
	if !ok || len(answers) != len(dialog)+1 {
		t.Fatalf("RunDesk(%q) = %q, %t", text, told, ok)
	}
	for i, pair := range dialog {
		if answers[i] != pair[1]+"\n" {
			t.Errorf("line %d, %q, tells %q, want %q", i, pair[0], answers[i], pair[1])
		}
	}
	return text
}

func TestDesk(t *testing.T) {
	text := checkDialog(t, [][2]string{
		{"setup 2 1 10 2 5 2 2 1 20", "ok"},
		{"state", "runs mark -1 in 0 queued 0 held 0 out 0 read 0 taken 0 late 0 over 0"},
		{"open", "ok"}, {"open", "ok"}, {"open", "bad"},
		{"event 0 7 3 5", "ok"}, {"event 0 7 9 -4", "ok"}, {"event 0 8 25 1", "ok"}, {"mark 1 50", "ok"},
		// No such Conn, and no such key, time or value.
		{"event 2 7 3 5", "bad"}, {"event 0 65536 3 5", "bad"}, {"event 0 7 1000001 5", "bad"}, {"event 0 7 3 1000001", "bad"}, {"mark 0 -1", "bad"},
		{"read 1", "ok"}, {"read 1", "idle"}, {"read 0", "ok"}, {"read 0", "ok"}, {"read 0", "idle"}, {"read 2", "bad"},
		{"route", "ok"}, {"route", "ok"}, {"route", "idle"}, {"read 0", "ok"}, {"route", "idle"}, {"shard 0", "ok"}, {"shard 1", "bad"},
		{"state", "runs mark 22 in 1 queued 1 held 1 out 0 read 3 taken 1 late 0 over 0"},
		{"shard 0", "ok"}, {"route", "ok"}, {"shard 0", "ok"}, {"sink 1", "idle"}, {"shard 0", "ok"}, {"shard 0", "idle"},
		{"state", "runs mark 22 in 0 queued 0 held 1 out 1 read 3 taken 3 late 0 over 0"},
		{"sink 0", "idle"}, {"sink 2", "bad"}, {"sink 1", "0/7:2 1 -4 5"}, {"sink 1", "idle"},
		// The tick alone.
		{"round", "1"},
		{"close 1", "ok"}, {"close 1", "bad"}, {"mark 1 60", "bad"}, {"bye 0", "ok"},
		// The tick and the bye that is read.
		{"round", "2"},
		{"bye 0", "bad"}, {"close 0", "bad"}, {"tick 1000", "ok"}, {"tick 1001", "bad"}, {"tick -1", "bad"}, {"foo", "bad"},
		{"end", "ok"}, {"end", "bad"}, {"open", "bad"}, {"event 0 1 1 1", "bad"},
		{"state", "drains mark 22 in 0 queued 0 held 1 out 0 read 3 taken 3 late 0 over 0"},
		{"shard 0", "ok"},
		// The tick, and the sink, which does not tell here what it emits.
		{"round", "2"},
		{"state", "drained mark 22 in 0 queued 0 held 0 out 0 read 3 taken 3 late 0 over 0"},
		{"round", "1"}, {"sink 1", "idle"}, {"state", "drained mark 22 in 0 queued 0 held 0 out 0 read 3 taken 3 late 0 over 0"},
	})
	e, ok := impl.DeskEnd(text)
	// What is fed to one that is closed is refused; a frame that is none was never fed.
	want := impl.Tally{Read: 3, Taken: 3, Refused: len(bytesOf(mark(60), bye(), event(1, 1, 1)))}
	if !ok || e.Tally != want || e.Now != 1004 || e.Mode != impl.ModeDrained || len(e.Conns) != 2 || e.Setup.CapOut != 1 {
		t.Errorf("%+v, %t", e, ok)
	}
}

// A round tells how many of its ops were done, the tick too.
func TestDeskRounds(t *testing.T) {
	text := checkDialog(t, [][2]string{
		// The tick alone: there is no Conn.
		{"setup 1 1 5 0 0 9 9 9 2", "ok"}, {"round", "1"}, {"open", "ok"}, {"round", "1"},
		{"event 0 1 1 1000000", "ok"}, {"event 0 2 1 -1000000", "ok"}, {"event 0 3 2 1", "ok"}, {"event 0 1 2 1000000", "ok"},
		// Each is read, routed and added; the third one is over, and so many sums have room.
		{"round", "4"}, {"round", "4"}, {"round", "4"}, {"round", "4"},
		{"state", "runs mark 1 in 0 queued 0 held 2 out 0 read 4 taken 3 late 0 over 1"},
		// A mark is read, it goes on alone, and the shard takes it.
		{"mark 0 4", "ok"}, {"round", "4"},
		// Then all is closed: the shard hands on, and the sink takes it, while an event that is late comes to the queue.
		{"event 0 1 4 1", "ok"}, {"round", "5"},
		{"state", "runs mark 4 in 0 queued 1 held 1 out 0 read 5 taken 3 late 0 over 1"},
		{"shard 0", "ok"}, {"sink 1", "0/2:1 -1000000 -1000000 -1000000"}, {"sink 1", "idle"},
		{"round", "2"}, {"round", "1"}, {"state", "runs mark 4 in 0 queued 0 held 0 out 0 read 5 taken 3 late 1 over 1"},
		{"bye 0", "ok"}, {"end", "ok"}, {"state", "drains mark 4 in 0 queued 0 held 0 out 0 read 5 taken 3 late 1 over 1"},
		{"round", "2"}, {"state", "drained mark 4 in 0 queued 0 held 0 out 0 read 5 taken 3 late 1 over 1"}, {"round", "1"},
	})
	e, ok := impl.DeskEnd(text)
	if !ok || e.Now != 12 || e.Mode != impl.ModeDrained {
		t.Errorf("%+v, %t", e, ok)
	}
	// A round has all Conns and all shards there are at its time.
	for shards := 1; shards <= 4; shards++ {
		for conns := range 7 {
			text := fmt.Sprintf("setup 6 %d 10 2 5 20 20 2 20\n", shards)
			want := "ok\n"
			for conn := range conns {
				text += fmt.Sprintf("open\nevent %d 1 5 1\nmark %d 30\n", conn, conn)
				want += "ok\nok\nok\n"
			}
			// Behind the tick each Conn is read, and the first event goes on to its shard.
			done := 1 + conns + min(conns, 1)*2
			checkTold(t, text+"round\n", want+strconv.Itoa(done)+"\n")
		}
	}
}

// The rounds of a text may be more ops than a script has: they are played as fair rounds are.
func TestDeskPlaysManyRounds(t *testing.T) {
	start := "setup 6 4 3 2 7 2 2 2 20\n"
	s := impl.Setup{Sources: 6, Shards: 4, Size: 3, Late: 2, IdleAfter: 7, CapIn: 2, CapShard: 2, CapOut: 2, Room: 20}
	var ops []impl.Op
	for conn := range 6 {
		start += "open\n"
		ops = append(ops, opOpen())
		for i := range 6 {
			start += fmt.Sprintf("event %d %d %d %d\n", conn, i+conn, 5*i+conn, i)
			ops = append(ops, opFeed(conn, event(i+conn, 5*i+conn, i)))
		}
	}
	start, ops = start+"end\n", append(ops, opEnd())
	for n := range impl.MaxTalkLines - len(ops) {
		text := start + strings.Repeat("round\n", n)
		e, out, _ := impl.PlayRounds(s, ops, n)
		if got, ok := impl.DeskEnd(text); !ok || !sameEngine(got, e) {
			t.Fatalf("behind %d rounds the desk has %+v, %t, want %+v", n, got, ok, e)
		}
		if n == impl.MaxTalkLines-len(ops)-1 && (e.Mode != impl.ModeDrained || len(out) < 20 || n*13 < impl.MaxOps) {
			t.Errorf("behind %d rounds: %+v, %v", n, e, out)
		}
	}
}

func TestSetupLine(t *testing.T) {
	for _, n := range someNumbers() {
		first := "setup " + numbersText(n)
		checkTold(t, first, "ok\n")
		checkTold(t, first+"\n", "ok\n")
		checkTold(t, first+"\nopen\nstate\nround\n", "ok\nok\nruns mark -1 in 0 queued 0 held 0 out 0 read 0 taken 0 late 0 over 0\n1\n")
		checkEnd(t, first, aSetup(n))
		checkEnd(t, first+"\nopen\nopen\nopen\nevent 1 1 5 7\n", aSetup(n), opOpen(), opOpen(), opOpen(), opFeed(1, event(1, 5, 7)))
	}
	bad := []string{
		"", " ", "1", "x", "3 2 10 2 5 4 3 2", "3 2 10 2 5 4 3 2 20 1", "3 2 10 2 5 4 3 2 20 ", " 3 2 10 2 5 4 3 2 20", "3 2  10 2 5 4 3 2 20", "3 2 10 2 5 4 3 2 020",
		"3 2 10 2 5 4 3 2 20\r", "setup 3 2 10 2 5 4 3 2 20", "-3 2 10 2 5 4 3 2 20", "7 2 10 2 5 4 3 2 20", strings.Repeat("1", impl.MaxLineBytes), strings.Repeat(" ", 500),
	}
	for _, n := range noNumbers() {
		bad = append(bad, numbersText(n))
	}
	s := impl.DefaultSetup()
	for _, text := range bad {
		first := "setup " + text
		checkTold(t, first, "bad\n")
		checkTold(t, first+"\nopen\nopen\nopen\nopen\n", "bad\nok\nok\nok\nbad\n")
		checkEnd(t, first+"\ntick 4\n", s, opTick(4))
	}
	// Only a first line is one of a setup, and only with a blank behind the word.
	good := "setup 1 1 10 2 5 4 3 2 20"
	for _, c := range [][2]string{
		{"setup", "bad\n"}, {"setup\n", "bad\n"}, {"setup\nopen\nopen", "bad\nok\nok\n"}, {"setups 1", "bad\n"}, {"setup\t1 1 10 2 5 4 3 2 20\nopen\nopen", "bad\nok\nok\n"},
		{" " + good + "\nopen\nopen", "bad\nok\nok\n"}, {"Setup 1 1 10 2 5 4 3 2 20\nopen\nopen", "bad\nok\nok\n"},
		{"\n" + good + "\nopen\nopen", "bad\nbad\nok\nok\n"}, {"tick 1\n" + good + "\nopen\nopen", "ok\nbad\nok\nok\n"},
		{good + "\n" + good + "\nopen\nopen", "ok\nbad\nok\nbad\n"}, {"setup 1\n" + good + "\nopen\nopen", "bad\nbad\nok\nok\n"},
		{good + "\nopen\nsetup 2 1 10 2 5 4 3 2 20\nopen", "ok\nok\nbad\nbad\n"},
	} {
		checkTold(t, c[0], c[1])
	}
	checkEnd(t, "tick 1\n"+good, s, opTick(1))
}

func TestLinesOfATalk(t *testing.T) {
	for _, c := range [][2]string{
		{"", ""}, {"\n", "bad\n"}, {"\n\n\n", "bad\nbad\nbad\n"}, {"open", "ok\n"}, {"open\n", "ok\n"}, {"open\n\n", "ok\nbad\n"}, {"\nopen", "bad\nok\n"},
		{"open\n\nopen", "ok\nbad\nok\n"}, {"open\nopen\n", "ok\nok\n"}, {"open\nopen", "ok\nok\n"}, {"open\n ", "ok\nbad\n"}, {" \nopen", "bad\nok\n"},
		{"open\r\nopen\r\n", "bad\nbad\n"}, {"open\ropen", "bad\n"}, {"open\n\r", "ok\nbad\n"}, {"open\n\n\nopen\n\n", "ok\nbad\nbad\nok\nbad\n"},
		{"open\x00", "bad\n"}, {"\xff\n\xc3\nopen", "bad\nbad\nok\n"},
	} {
		checkTold(t, c[0], c[1])
		e, ok := impl.DeskEnd(c[0])
		if want := strings.Count(c[1], "ok"); !ok || len(e.Conns) != want {
			t.Errorf("DeskEnd(%q) = %+v, %t", c[0], e, ok)
		}
	}
	checkEnd(t, "", impl.DefaultSetup())
	for _, line := range noLines() {
		if strings.Contains(line, "\n") || strings.HasPrefix(line, "setup ") {
			continue
		}
		// A line that is none changes nothing.
		checkTold(t, "open\n"+line+"\nopen\n", "ok\nbad\nok\n")
		checkEnd(t, "open\n"+line+"\nopen\n", impl.DefaultSetup(), opOpen(), opOpen())
	}
}

// talkOf is a text of so many bytes in so many lines, and how many of them are ticks of 1.
func talkOf(t *testing.T, bytes int, lines int, ended bool) (string, int) {
	t.Helper()
	text, ticks := "", 0
	for range lines - 1 {
		if len(text)+7+lines < bytes {
			text, ticks = text+"tick 1\n", ticks+1
		} else {
			text += "\n"
		}
	}
	last := bytes - len(text)
	if ended {
		last--
	}
	text += strings.Repeat("x", last)
	if ended {
		text += "\n"
	}
	if len(text) != bytes || last < 0 {
		t.Fatalf("%d bytes, want %d", len(text), bytes)
	}
	return text, ticks
}

func TestLongTalks(t *testing.T) {
	for _, ended := range []bool{false, true} {
		for _, bytes := range []int{impl.MaxTalk - 1, impl.MaxTalk, impl.MaxTalk + 1, impl.MaxTalk + 2, 2 * impl.MaxTalk, 1 << 20} {
			for _, lines := range []int{1, 2, 50, impl.MaxTalkLines - 1, impl.MaxTalkLines, impl.MaxTalkLines + 1, 2 * impl.MaxTalkLines} {
				text, ticks := talkOf(t, bytes, lines, ended)
				if bytes > impl.MaxTalk || lines > impl.MaxTalkLines {
					checkNoTalk(t, fmt.Sprintf("%d bytes in %d lines, ended: %t", bytes, lines, ended), text)
					continue
				}
				checkTold(t, text, strings.Repeat("ok\n", ticks)+strings.Repeat("bad\n", lines-ticks))
				if e, ok := impl.DeskEnd(text); !ok || e.Now != ticks || ticks == 0 && lines > 1 {
					t.Errorf("DeskEnd(%q) = %+v, %t", text, e, ok)
				}
			}
		}
	}
	for _, line := range []string{"", "open", "tick 1", "round", "state", "end"} {
		for n, ok := range map[int]bool{impl.MaxTalkLines - 1: true, impl.MaxTalkLines: true, impl.MaxTalkLines + 1: false, impl.MaxTalkLines + 2: false} {
			text := strings.Repeat(line+"\n", n)
			told, gotOk := impl.RunDesk(text)
			if gotOk != ok || ok && strings.Count(told, "\n") != n {
				t.Errorf("%d lines %q: %q, %t", n, line, told, gotOk)
			}
			if !ok {
				checkNoTalk(t, fmt.Sprint(n, " lines of ", line), text)
			}
			// What stands behind the last byte 10 is one more, if it is not empty.
			if n == impl.MaxTalkLines {
				checkNoTalk(t, "one behind", text+"x")
				checkNoTalk(t, "an empty one behind", text+"\n")
			}
		}
	}
	// The line of a setup is one of them.
	first := "setup 3 2 10 2 5 4 3 2 20\n"
	checkTold(t, first+strings.Repeat("tick 1\n", impl.MaxTalkLines-1), strings.Repeat("ok\n", impl.MaxTalkLines))
	checkNoTalk(t, "a setup and as many lines", first+strings.Repeat("tick 1\n", impl.MaxTalkLines))
	checkNoTalk(t, "a bad setup and as many lines", "setup \n"+strings.Repeat("\n", impl.MaxTalkLines))
}

func checkScript(t *testing.T, ops []impl.Op, want string) {
	t.Helper()
	if got, ok := impl.Script(ops); !ok || got != want {
		t.Errorf("Script(%v) = %q, %t, want %q", opsText(ops), got, ok, want)
	}
}

func checkNoScript(t *testing.T, what string, ops []impl.Op) {
	t.Helper()
	if got, ok := impl.Script(ops); ok || got != "" {
		t.Errorf("%s: Script tells %d bytes, %t", what, len(got), ok)
	}
}

func TestScript(t *testing.T) {
	checkScript(t, nil, "")
	checkScript(t, []impl.Op{}, "")
	checkScript(t, []impl.Op{opTick(3), opEnd()}, "tick 3\nend\n")
	checkScript(t, []impl.Op{
		opTick(0), opOpen(), opFeed(0, event(1, 3, -5)), opFeed(1, mark(9)), opFeed(2, bye()), opClose(3), opRead(4), opRoute(), opShard(5), opSink(6), opEnd(),
	}, "tick 0\nopen\nevent 0 1 3 -5\nmark 1 9\nbye 2\nclose 3\nread 4\nroute\nshard 5\nsink 6\nend\n")
	for line, op := range someLines() {
		checkScript(t, []impl.Op{op}, line+"\n")
		checkScript(t, []impl.Op{op, opOpen(), op}, line+"\nopen\n"+line+"\n")
	}
	// One op without a line is enough, wherever it stands.
	for _, op := range []impl.Op{
		{Kind: 9}, {Kind: -1}, {Kind: 1, A: 1}, {Kind: 0, B: 1}, {Kind: 0, A: mostNumber + 1}, {Kind: 4, Data: []byte{1}}, opBytes(0, nil), opBytes(0, bent()),
		opFeed(0, bye(), bye()), opBytes(0, append(bytesOf(bye()), 1)),
	} {
		for at := range 4 {
			ops := slices.Insert([]impl.Op{opOpen(), opTick(1), opRoute()}, at, op)
			checkNoScript(t, fmt.Sprint(op, " at ", at), ops)
		}
		checkNoScript(t, fmt.Sprint(op, " alone"), []impl.Op{op})
		checkNoScript(t, fmt.Sprint(op, " behind many"), append(slices.Repeat([]impl.Op{opRoute()}, impl.MaxTalkLines-1), op))
	}
}

func TestLongScripts(t *testing.T) {
	for line, op := range someLines() {
		most := min(impl.MaxTalkLines, impl.MaxTalk/(len(line)+1))
		for _, n := range []int{1, most - 1, most} {
			text := strings.Repeat(line+"\n", n)
			checkScript(t, slices.Repeat([]impl.Op{op}, n), text)
			if told, ok := impl.RunDesk(text); !ok || strings.Count(told, "\n") != n {
				t.Errorf("%d lines %q: %q, %t", n, line, told, ok)
			}
		}
		for _, n := range []int{most + 1, most + 2, 10 * most, impl.MaxTalkLines + 1, 100000} {
			checkNoScript(t, fmt.Sprint(n, " times ", line), slices.Repeat([]impl.Op{op}, n))
		}
	}
	// A hundred lines of 40 bytes each, with their bytes 10, are as many as there may be.
	value := func(x int) impl.Op { return opFeed(-mostNumber, event(impl.MaxKey, impl.MaxTime, x)) }
	ops := slices.Repeat([]impl.Op{value(-100000)}, 100)
	for _, x := range []int{-100000, -99999, -10000, 0, 100000} {
		ops[57] = value(x)
		text, ok := impl.Script(ops)
		if !ok || len(text) != impl.MaxTalk-7+len(strconv.Itoa(x)) {
			t.Errorf("a script of %d bytes, %t", len(text), ok)
		}
		checkEnd(t, text, impl.DefaultSetup(), ops...)
	}
	ops[57] = value(-1000000)
	checkNoScript(t, "a byte more", ops)
	ops[57] = value(-100000)
	checkNoScript(t, "a line more", append(slices.Clone(ops), opEnd()))
	ops[99] = opEnd()
	for range 5 {
		ops = append(ops, opTick(1))
	}
	// Now there are 36 bytes less, and 35 more.
	if text, ok := impl.Script(ops); !ok || len(text) != impl.MaxTalk-1 {
		t.Errorf("a script of %d bytes, %t", len(text), ok)
	}
	ops[100] = opTick(100)
	checkNoScript(t, "a byte more by a tick", ops)
}

// A talk is what a text must tell, played anew for each line with the ops of all lines up to it.
type talk struct {
	t    *testing.T
	s    impl.Setup
	ops  []impl.Op
	told []string
}

// play plays some ops more: the engine ahead of them, what they emit, and their codes.
func (k *talk) play(ops ...impl.Op) ([]impl.Agg, []int) {
	k.t.Helper()
	_, was, _, _ := impl.PlayEngine(k.s, k.ops)
	n := len(k.ops)
	k.ops = append(k.ops, ops...)
	_, out, codes, ok := impl.PlayEngine(k.s, k.ops)
	if !ok {
		k.t.Fatalf("%d ops can't be played", len(k.ops))
	}
	return out[len(was):], codes[n:]
}

func (k *talk) tell(line string) string {
	k.t.Helper()
	e, _, _, _ := impl.PlayEngine(k.s, k.ops)
	op, ok := readPlainly(line)
	switch {
	case ok:
		out, codes := k.play(op)
		if len(out) > 0 {
			return impl.AggText(out[0])
		}
		return []string{"ok", "idle", "bad"}[codes[0]]
	case line == "state":
		return impl.EngineText(e)
	case line == "round":
		_, codes := k.play(aRound(len(e.Conns), len(e.Shards))...)
		done := 0
		for _, code := range codes {
			if code == impl.OpDone {
				done++
			}
		}
		return strconv.Itoa(done)
	}
	return "bad"
}

// aLine is one of any kind, mostly one that may be done.
func aLine(next func(below int) int, at int) string {
	conn := next(4)
	switch next(20) {
	case 0:
		return fmt.Sprint("tick ", next(6))
	case 1:
		return "open"
	case 2, 3, 4, 5:
		return fmt.Sprintf("event %d %d %d %d", conn, next(9), 2*at+next(40), next(200)-100)
	case 6:
		return fmt.Sprintf("mark %d %d", conn, 2*at)
	case 7, 8, 9:
		return fmt.Sprint("read ", conn)
	case 10, 11:
		return "route"
	case 12, 13:
		return fmt.Sprint("shard ", next(4))
	case 14, 15:
		return "sink 1"
	case 16:
		return "round"
	case 17:
		return "state"
	}
	rare := []string{
		fmt.Sprint("bye ", conn), fmt.Sprint("close ", conn), "sink 0", "sink 2", "tick 1001", "tick -1", "shard -1", "read 9999999999", "event 0 65536 1 1", "mark 0 -1", "bye 99", "foo", "",
		"open ", "tick  1", "setup 1 1 10 2 5 4 3 2 20", "round 1", "event 0 1 1",
	}
	return rare[next(len(rare))]
}

// The desk tells what the engine tells, line by line, and its engine is that of PlayEngine (promise 11).
func TestDeskIsTheEngine(t *testing.T) {
	kinds := map[string]int{}
	for seed := range 150 {
		next := stir(5000 + seed)
		k := &talk{t: t, s: impl.DefaultSetup()}
		var lines, told []string
		if seed%5 > 0 {
			k.s = aLittleSetup(next)
			text, _ := impl.SetupText(k.s)
			lines, told = append(lines, "setup "+text), append(told, "ok")
		}
		size := 0
		for len(lines) < impl.MaxTalkLines {
			line := aLine(next, len(lines))
			if len(lines) == 130 {
				line = "end"
			}
			if len(k.ops) > impl.MaxOps-20 || size+len(line) > impl.MaxTalk-200 {
				break
			}
			answer := k.tell(line)
			lines, told, size = append(lines, line), append(told, answer), size+len(line)+1
			kinds[strings.TrimRight(answer, "0123456789 -/:")]++
		}
		text, want := strings.Join(lines, "\n"), strings.Join(told, "\n")+"\n"
		checkTold(t, text, want)
		checkTold(t, text+"\n", want)
		checkEnd(t, text, k.s, k.ops...)
		if t.Failed() {
			return
		}
	}
	// The talks are worth something only when all of it was told.
	if kinds["ok"] < 2000 || kinds["idle"] < 1000 || kinds["bad"] < 500 || kinds[""] < 500 {
		t.Errorf("%v", kinds)
	}
}

// A Script of ops of every kind tells the codes of PlayEngine, but where the sink emits.
func TestDeskTellsTheCodesOfAScript(t *testing.T) {
	sum, emitted := [3]int{}, 0
	for seed := range 200 {
		next := stir(7000 + seed)
		ops := []impl.Op{opOpen(), opOpen()}
		for size := 0; len(ops) < impl.MaxTalkLines-1 && size < impl.MaxTalk-200; {
			op := anOp(next, len(ops))
			if line, ok := impl.OpLine(op); ok {
				ops, size = append(ops, op), size+len(line)+1
			}
		}
		if seed%2 == 0 {
			ops = append(ops, opEnd())
		}
		text, ok := impl.Script(ops)
		_, out, codes, _ := impl.PlayEngine(impl.DefaultSetup(), ops)
		want := ""
		for i, code := range codes {
			sum[code]++
			if ops[i].Kind == 7 && code == impl.OpDone {
				want, out = want+impl.AggText(out[0])+"\n", out[1:]
				emitted++
			} else {
				want += []string{"ok", "idle", "bad"}[code] + "\n"
			}
		}
		if !ok || len(out) > 0 {
			t.Fatalf("Script(%v) = %q, %t", opsText(ops), text, ok)
		}
		checkTold(t, text, want)
		checkEnd(t, text, impl.DefaultSetup(), ops...)
		for i, line := range strings.Split(strings.TrimSuffix(text, "\n"), "\n") {
			checkLine(t, line, ops[i])
		}
	}
	if slices.Min(sum[:]) < 1000 || emitted < 100 {
		t.Errorf("codes %v, %d emitted", sum, emitted)
	}
}

func TestLinesAreNewMemory(t *testing.T) {
	first, _ := impl.ParseLine("event 0 1 3 5")
	second, _ := impl.ParseLine("event 0 1 3 5")
	checkApart(t, "bytes", func(i int) byte { return byte(7 + i) }, first.Data, second.Data)
	checkLine(t, "event 0 1 3 5", opFeed(0, event(1, 3, 5)))
	ops := append(make([]impl.Op, 0, 9), opOpen(), opBytes(0, append(make([]byte, 0, 50), bytesOf(event(1, 3, 5))...)), opFeed(1, bye()))
	given := opsText(ops)
	impl.Script(ops)
	impl.OpLine(ops[1])
	if opsText(ops) != given || ops[:9][3].Kind != 0 || ops[1].Data[:50][14] != 0 {
		t.Errorf("%v became %v", given, opsText(ops))
	}
	text := "open\nopen\nevent 0 1 3 5\nevent 0 2 30 5\nevent 1 2 3 4\nread 0\nread 0\nread 1\nroute\nround\nevent 1 2 3 4"
	a, _ := impl.DeskEnd(text)
	b, _ := impl.DeskEnd(text)
	for _, e := range []impl.Engine{a, b} {
		checkApart(t, "messages", func(i int) impl.Msg { return impl.Msg{Mark: 7 + i} }, append([][]impl.Msg{e.In}, e.Queues...)...)
		checkApart(t, "aggs", func(i int) impl.Agg { return impl.Agg{Win: 7 + i} }, e.Out, e.Shards[0].Aggs, e.Shards[1].Aggs)
	}
	checkApart(t, "bytes of engines", func(i int) byte { return byte(7 + i) }, a.Conns[0].Decoder.Buf, a.Conns[1].Decoder.Buf, b.Conns[0].Decoder.Buf, b.Conns[1].Decoder.Buf)
}

// Nothing is kept from one talk to another, not even when they come at the same time.
func TestTalksDoNotHearOfEachOther(t *testing.T) {
	text := "open\nevent 0 1 3 5\nmark 0 40\n" + strings.Repeat("round\nstate\n", 9) + "end\nround\nround\nstate"
	want, _ := impl.RunDesk(text)
	told := make(chan bool)
	for i := range 8 {
		go func() {
			impl.RunDesk(fmt.Sprintf("setup 1 %d 10 2 5 4 3 2 20\ntick %d\nopen", 1+i%4, i))
			got, ok := impl.RunDesk(text)
			line, okToo := impl.OpLine(opTick(i))
			told <- ok && got == want && okToo && line == fmt.Sprint("tick ", i)
		}()
	}
	for range 8 {
		if !<-told {
			t.Error("another talk")
		}
	}
	if !strings.HasSuffix(want, "drained mark 40 in 0 queued 0 held 0 out 0 read 1 taken 1 late 0 over 0\n") {
		t.Errorf("%q", want)
	}
}
