package tests

import (
	"bytes"
	"hash/crc32"
	"math"
	"slices"
	"testing"

	"loop.example/g00728/impl"
)

func event(key int, time int, value int) impl.Frame {
	return impl.Frame{Kind: impl.FrameEvent, Key: key, Time: time, Value: value}
}

func mark(time int) impl.Frame { return impl.Frame{Kind: impl.FrameMark, Time: time} }

func bye() impl.Frame { return impl.Frame{Kind: impl.FrameBye} }

// someFrames are frames of each kind, with numbers at both ends of their ranges and at the places where one byte gives way to the next.
func someFrames() []impl.Frame {
	list := []impl.Frame{bye()}
	times := []int{0, 1, 255, 256, 65535, 65536, 983039, 983040, 999935, 999936, impl.MaxTime - 1, impl.MaxTime}
	for _, time := range times {
		list = append(list, mark(time))
	}
	for _, key := range []int{0, 1, 255, 256, 258, 65280, impl.MaxKey - 1, impl.MaxKey} {
		for _, time := range times {
			for _, value := range []int{-impl.MaxValue, -impl.MaxValue + 1, -1, 0, 1, 48576, 966080, 999999, impl.MaxValue} {
				list = append(list, event(key, time, value))
			}
		}
	}
	return list
}

func noFrames() []impl.Frame {
	list := []impl.Frame{
		{}, {Kind: 4}, {Kind: -1}, {Kind: 257}, {Kind: 9}, {Kind: 0, Key: 1}, {Kind: math.MaxInt}, {Kind: math.MinInt},
		{Kind: impl.FrameMark, Key: 1, Time: 5}, {Kind: impl.FrameMark, Time: 5, Value: 1}, {Kind: impl.FrameMark, Time: 5, Value: -1},
		{Kind: impl.FrameBye, Key: 1}, {Kind: impl.FrameBye, Time: 1}, {Kind: impl.FrameBye, Value: 1}, {Kind: impl.FrameBye, Value: -1},
		{Kind: 4, Key: 1, Time: 1, Value: 1}, {Kind: -1, Time: 1},
	}
	for _, x := range []int{-1, impl.MaxKey + 1, 65536 * 256, math.MaxInt, math.MinInt} {
		list = append(list, event(x, 5, 5))
	}
	for _, x := range []int{-1, impl.MaxTime + 1, 16777216, math.MaxInt, math.MinInt} {
		list = append(list, event(5, x, 5), mark(x))
	}
	for _, x := range []int{-impl.MaxValue - 1, impl.MaxValue + 1, 16777216, math.MaxInt, math.MinInt} {
		list = append(list, event(5, 5, x))
	}
	return list
}

// aStream holds frames of each kind, those of no numbers and those of the greatest among them.
func aStream() []impl.Frame {
	return []impl.Frame{
		event(258, 7, -1), mark(5), bye(), bye(), event(impl.MaxKey, impl.MaxTime, impl.MaxValue),
		event(0, 0, -impl.MaxValue), mark(0), mark(impl.MaxTime), event(9, 9, 9), bye(),
	}
}

func bytesOf(list ...impl.Frame) []byte {
	var b []byte
	for _, f := range list {
		b = append(b, impl.PutFrame(f)...)
	}
	return b
}

// withCheck puts a body's length ahead of it and its check sum behind it, whatever the body is.
func withCheck(body ...byte) []byte {
	sum := crc32.ChecksumIEEE(body)
	b := append([]byte{byte(len(body))}, body...)
	return append(b, byte(sum>>24), byte(sum>>16), byte(sum>>8), byte(sum))
}

func sameDecoder(a impl.Decoder, b impl.Decoder) bool {
	return bytes.Equal(a.Buf, b.Buf) && a.Bad == b.Bad
}

// readPieces feeds one piece after the other and takes all frames that are there behind each.
func readPieces(t *testing.T, pieces ...[]byte) (impl.Decoder, []impl.Frame) {
	t.Helper()
	var d impl.Decoder
	var list []impl.Frame
	for _, p := range pieces {
		var ok bool
		if d, ok = impl.FeedBytes(d, p); !ok && !d.Bad {
			t.Fatalf("a piece of %d bytes is refused behind %d bytes", len(p), len(d.Buf))
		}
		for {
			next, f, code := impl.TakeNext(d)
			d = next
			if code != impl.NextFrame {
				break
			}
			list = append(list, f)
		}
	}
	return d, list
}

func TestFrameLimits(t *testing.T) {
	if impl.MaxTime != 1000000 || impl.MaxValue != 1000000 || impl.MaxKey != 65535 || impl.MaxBuf != 400 {
		t.Error("limits")
	}
	if impl.FrameEvent != 1 || impl.FrameMark != 2 || impl.FrameBye != 3 {
		t.Error("kinds")
	}
	if impl.NextFrame != 0 || impl.NextMore != 1 || impl.NextBad != 2 {
		t.Error("codes")
	}
}

func TestFrameOk(t *testing.T) {
	for _, f := range someFrames() {
		if !impl.FrameOk(f) {
			t.Errorf("FrameOk(%v) is false", f)
		}
	}
	for _, f := range noFrames() {
		if impl.FrameOk(f) {
			t.Errorf("FrameOk(%v) is true", f)
		}
	}
}

func TestCheck(t *testing.T) {
	for _, c := range []struct {
		text string
		want int
	}{
		{"", 0}, {"123456789", 3421780262}, {"a", 3904355907}, {"\x00", 3523407757}, {"\xff", 4278190080},
	} {
		if got := impl.Check([]byte(c.text)); got != c.want {
			t.Errorf("Check(%q) = %d, want %d", c.text, got, c.want)
		}
	}
	long := make([]byte, 1000)
	for i := range long {
		long[i] = byte(i * i / 3)
	}
	for n := range long {
		if got, want := impl.Check(long[:n]), int(crc32.ChecksumIEEE(long[:n])); got != want {
			t.Errorf("Check of %d bytes = %d, want %d", n, got, want)
		}
	}
	for x := range 256 {
		if got, want := impl.Check([]byte{byte(x)}), int(crc32.ChecksumIEEE([]byte{byte(x)})); got != want {
			t.Errorf("Check of byte %d = %d, want %d", x, got, want)
		}
	}
}

func TestPutFrame(t *testing.T) {
	for _, c := range []struct {
		f    impl.Frame
		body []byte
	}{
		{event(258, 7, -1), []byte{1, 1, 2, 0, 0, 7, 15, 66, 63}},
		{event(0, 0, -impl.MaxValue), []byte{1, 0, 0, 0, 0, 0, 0, 0, 0}},
		{event(0, 0, 0), []byte{1, 0, 0, 0, 0, 0, 15, 66, 64}},
		{event(impl.MaxKey, impl.MaxTime, impl.MaxValue), []byte{1, 255, 255, 15, 66, 64, 30, 132, 128}},
		{event(1, 65536, 1), []byte{1, 0, 1, 1, 0, 0, 15, 66, 65}},
		{mark(0), []byte{2, 0, 0, 0}},
		{mark(66051), []byte{2, 1, 2, 3}},
		{mark(impl.MaxTime), []byte{2, 15, 66, 64}},
		{bye(), []byte{3}},
	} {
		if got, want := impl.PutFrame(c.f), withCheck(c.body...); !bytes.Equal(got, want) {
			t.Errorf("PutFrame(%v) = %v, want %v", c.f, got, want)
		}
	}
	for _, f := range noFrames() {
		if got := impl.PutFrame(f); len(got) != 0 {
			t.Errorf("PutFrame(%v) = %v", f, got)
		}
	}
}

func TestFramesAreTakenAsTheyWerePut(t *testing.T) {
	for _, f := range someFrames() {
		b := impl.PutFrame(f)
		for _, behind := range [][]byte{nil, {9}, {200, 1, 1}, impl.PutFrame(bye()), make([]byte, 500)} {
			if got, n := impl.TakeFrame(append(slices.Clone(b), behind...)); got != f || n != len(b) {
				t.Errorf("TakeFrame of %v with %d bytes behind = %v, %d", f, len(behind), got, n)
			}
		}
		for n := range b {
			if got, code := impl.TakeFrame(b[:n]); got != (impl.Frame{}) || code != 0 {
				t.Errorf("TakeFrame of %d bytes of %v = %v, %d", n, f, got, code)
			}
		}
	}
}

func TestNoFrameIsShorterThanItsBeginning(t *testing.T) {
	for _, b := range [][]byte{
		nil, {}, {1}, {1, 3}, {4}, {4, 2}, {4, 2, 0}, {9}, {9, 1}, {9, 1, 255}, {9, 1, 255, 255},
		{4, 2, 15}, {4, 2, 15, 66}, {4, 2, 15, 66, 64}, {4, 2, 14, 255}, {4, 2, 14, 255, 255}, {4, 2, 15, 65, 255},
		{9, 1, 0, 0, 15}, {9, 1, 0, 0, 15, 66}, {9, 1, 0, 0, 15, 66, 64}, {9, 1, 0, 0, 15, 65, 255},
		{9, 1, 0, 0, 0, 0, 0, 30}, {9, 1, 0, 0, 0, 0, 0, 30, 132}, {9, 1, 0, 0, 0, 0, 0, 30, 132, 128},
		{9, 1, 0, 0, 0, 0, 0, 29, 255, 255}, {9, 1, 0, 0, 0, 0, 0, 0, 0, 0},
	} {
		if f, code := impl.TakeFrame(b); f != (impl.Frame{}) || code != 0 {
			t.Errorf("TakeFrame(%v) = %v, %d, want 0", b, f, code)
		}
	}
}

func TestNoFrameBeginsSo(t *testing.T) {
	for _, b := range [][]byte{
		{0}, {2}, {3}, {5}, {8}, {10}, {128}, {255}, {0, 0}, {0, 3}, {0, 0, 0, 0, 0},
		// A length that is another kind's.
		{9, 2}, {9, 3}, {4, 1}, {4, 3}, {1, 1}, {1, 2}, {9, 0}, {4, 0}, {1, 0}, {1, 4}, {9, 255}, {4, 130}, {1, 131},
		// A body that can't be filled up any more.
		{4, 2, 16}, {4, 2, 255}, {4, 2, 15, 67}, {4, 2, 15, 66, 65}, {4, 2, 15, 66, 255},
		{9, 1, 0, 0, 16}, {9, 1, 0, 0, 128}, {9, 1, 0, 0, 15, 67}, {9, 1, 0, 0, 15, 66, 65},
		{9, 1, 0, 0, 0, 0, 0, 31}, {9, 1, 0, 0, 0, 0, 0, 255}, {9, 1, 0, 0, 0, 0, 0, 30, 133}, {9, 1, 0, 0, 0, 0, 0, 30, 132, 129},
		// A check sum that is right for a body that is no frame's.
		withCheck(), withCheck(0), withCheck(1), withCheck(2), withCheck(4), withCheck(3, 0), withCheck(2, 0, 0), withCheck(2, 0, 0, 0, 0),
		withCheck(1, 0, 0, 0), withCheck(3, 0, 0, 0), withCheck(2, 15, 66, 65), withCheck(2, 255, 255, 255),
		withCheck(2, 0, 0, 0, 0, 0, 0, 0, 0), withCheck(3, 0, 0, 0, 0, 0, 0, 0, 0), withCheck(1, 0, 0, 0, 0, 0, 0, 0),
		withCheck(1, 0, 0, 15, 66, 65, 0, 0, 0), withCheck(1, 0, 0, 0, 0, 0, 30, 132, 129), withCheck(1, 0, 0, 0, 0, 0, 0, 0, 0, 0),
	} {
		if f, code := impl.TakeFrame(b); f != (impl.Frame{}) || code != -1 {
			t.Errorf("TakeFrame(%v) = %v, %d, want -1", b, f, code)
		}
		if f, code := impl.TakeFrame(append(slices.Clone(b), make([]byte, 30)...)); f != (impl.Frame{}) || code != -1 {
			t.Errorf("TakeFrame(%v and noughts) = %v, %d, want -1", b, f, code)
		}
	}
}

func TestFirstByteTellsTheLength(t *testing.T) {
	kinds := map[byte]byte{9: impl.FrameEvent, 4: impl.FrameMark, 1: impl.FrameBye}
	for x := range 256 {
		kind, known := kinds[byte(x)]
		want := -1
		if known {
			want = 0
		}
		if _, code := impl.TakeFrame([]byte{byte(x)}); code != want {
			t.Errorf("TakeFrame of byte %d is %d, want %d", x, code, want)
		}
		for y := range 256 {
			want := -1
			if known && byte(y) == kind {
				want = 0
			}
			if _, code := impl.TakeFrame([]byte{byte(x), byte(y)}); code != want {
				t.Errorf("TakeFrame of bytes %d, %d is %d, want %d", x, y, code, want)
			}
		}
	}
}

func TestTurnedByteIsFound(t *testing.T) {
	for _, f := range aStream() {
		whole := impl.PutFrame(f)
		for i := range whole {
			for x := 1; x < 256; x++ {
				b := slices.Clone(whole)
				b[i] ^= byte(x)
				if got, code := impl.TakeFrame(b); got != (impl.Frame{}) || code != -1 {
					t.Errorf("TakeFrame of %v with byte %d turned to %d = %v, %d", f, i, b[i], got, code)
				}
			}
		}
	}
}

func TestTurnedCheckIsFoundEarly(t *testing.T) {
	for _, f := range aStream() {
		whole := impl.PutFrame(f)
		for i := len(whole) - 4; i < len(whole); i++ {
			b := slices.Clone(whole[:i+1])
			b[i] ^= 64
			if got, code := impl.TakeFrame(b); got != (impl.Frame{}) || code != -1 {
				t.Errorf("TakeFrame of %v up to its turned byte %d = %v, %d", f, i, got, code)
			}
		}
	}
}

func TestDecoderOk(t *testing.T) {
	for _, c := range []struct {
		d    impl.Decoder
		want bool
	}{
		{impl.Decoder{}, true}, {impl.Decoder{Bad: true}, true}, {impl.Decoder{Buf: []byte{}, Bad: true}, true},
		{impl.Decoder{Buf: []byte{200}}, true}, {impl.Decoder{Buf: []byte{9}, Bad: true}, false},
		{impl.Decoder{Buf: make([]byte, impl.MaxBuf)}, true}, {impl.Decoder{Buf: make([]byte, impl.MaxBuf+1)}, false},
		{impl.Decoder{Buf: make([]byte, impl.MaxBuf), Bad: true}, false}, {impl.Decoder{Buf: make([]byte, impl.MaxBuf+1), Bad: true}, false},
	} {
		if got := impl.DecoderOk(c.d); got != c.want {
			t.Errorf("DecoderOk of %d bytes, bad %t, is %t", len(c.d.Buf), c.d.Bad, got)
		}
	}
}

func TestFeedBytes(t *testing.T) {
	full := bytes.Repeat([]byte{7}, impl.MaxBuf)
	for _, c := range []struct {
		d    impl.Decoder
		b    []byte
		want bool
	}{
		{impl.Decoder{}, nil, true}, {impl.Decoder{}, []byte{5}, true}, {impl.Decoder{Buf: []byte{1, 2}}, []byte{3, 4}, true},
		{impl.Decoder{Buf: []byte{1, 2}}, nil, true}, {impl.Decoder{}, full, true}, {impl.Decoder{Buf: full}, nil, true},
		{impl.Decoder{Buf: full[:399]}, []byte{1}, true}, {impl.Decoder{Buf: []byte{1}}, full[:399], true},
		{impl.Decoder{Buf: full}, []byte{1}, false}, {impl.Decoder{Buf: []byte{1}}, full, false},
		{impl.Decoder{}, append(slices.Clone(full), 1), false}, {impl.Decoder{Buf: full[:200]}, full[:201], false},
		{impl.Decoder{Bad: true}, []byte{1}, false}, {impl.Decoder{Bad: true}, nil, false},
		{impl.Decoder{Buf: []byte{1}, Bad: true}, []byte{2}, false}, {impl.Decoder{Buf: []byte{1}, Bad: true}, nil, false},
		{impl.Decoder{Buf: append(slices.Clone(full), 9)}, nil, false}, {impl.Decoder{Buf: append(slices.Clone(full), 9)}, []byte{1}, false},
	} {
		want := c.d
		if c.want {
			want.Buf = slices.Concat(c.d.Buf, c.b)
		}
		if got, ok := impl.FeedBytes(c.d, c.b); ok != c.want || !sameDecoder(got, want) {
			t.Errorf("FeedBytes of %d bytes behind %d, bad %t: %t, %d bytes, bad %t", len(c.b), len(c.d.Buf), c.d.Bad, ok, len(got.Buf), got.Bad)
		}
	}
}

func TestTakeNext(t *testing.T) {
	m := impl.PutFrame(mark(5))
	full := bytes.Repeat(m, 45)[:impl.MaxBuf]
	for _, c := range []struct {
		d    impl.Decoder
		rest impl.Decoder
		f    impl.Frame
		code int
	}{
		{impl.Decoder{}, impl.Decoder{}, impl.Frame{}, impl.NextMore},
		{impl.Decoder{Buf: m[:4]}, impl.Decoder{Buf: m[:4]}, impl.Frame{}, impl.NextMore},
		{impl.Decoder{Buf: m}, impl.Decoder{}, mark(5), impl.NextFrame},
		{impl.Decoder{Buf: append(slices.Clone(m), 200)}, impl.Decoder{Buf: []byte{200}}, mark(5), impl.NextFrame},
		{impl.Decoder{Buf: full}, impl.Decoder{Buf: full[len(m):]}, mark(5), impl.NextFrame},
		{impl.Decoder{Buf: []byte{200}}, impl.Decoder{Bad: true}, impl.Frame{}, impl.NextBad},
		{impl.Decoder{Buf: append([]byte{200}, m...)}, impl.Decoder{Bad: true}, impl.Frame{}, impl.NextBad},
		{impl.Decoder{Bad: true}, impl.Decoder{Bad: true}, impl.Frame{}, impl.NextBad},
		{impl.Decoder{Buf: m, Bad: true}, impl.Decoder{Buf: m, Bad: true}, impl.Frame{}, impl.NextBad},
		{impl.Decoder{Buf: append(slices.Clone(full), 2)}, impl.Decoder{Buf: append(slices.Clone(full), 2)}, impl.Frame{}, impl.NextBad},
	} {
		d, f, code := impl.TakeNext(c.d)
		if !sameDecoder(d, c.rest) || f != c.f || code != c.code {
			t.Errorf("TakeNext of %v, bad %t: %v, bad %t, %v, %d", c.d.Buf, c.d.Bad, d.Buf, d.Bad, f, code)
		}
	}
}

func TestPiecesGiveTheSameFrames(t *testing.T) {
	want := aStream()
	b := bytesOf(want...)
	check := func(pieces ...[]byte) {
		d, got := readPieces(t, pieces...)
		if !slices.Equal(got, want) || !sameDecoder(d, impl.Decoder{}) {
			t.Fatalf("%d pieces, the first of %d bytes: %v, left %v, bad %t", len(pieces), len(pieces[0]), got, d.Buf, d.Bad)
		}
	}
	for i := range len(b) + 1 {
		for j := i; j <= len(b); j++ {
			check(b[:i], b[i:j], b[j:])
		}
	}
	for n := 1; n <= len(b); n++ {
		check(slices.Collect(slices.Chunk(b, n))...)
	}
}

func TestPiecesOfALongStream(t *testing.T) {
	want := slices.Repeat(aStream(), 20)
	b := bytesOf(want...)
	for _, n := range []int{1, 2, 3, 13, 14, 100, impl.MaxBuf - 13} {
		d, got := readPieces(t, slices.Collect(slices.Chunk(b, n))...)
		if !slices.Equal(got, want) || !sameDecoder(d, impl.Decoder{}) {
			t.Errorf("pieces of %d: %d frames of %d, left %d, bad %t", n, len(got), len(want), len(d.Buf), d.Bad)
		}
	}
}

func TestTurnedByteInPieces(t *testing.T) {
	frames := aStream()
	whole := bytesOf(frames...)
	end := 0
	for place, f := range frames {
		start := end
		end += len(impl.PutFrame(f))
		for i := start; i < end; i++ {
			b := slices.Clone(whole)
			b[i] ^= 1 << (i % 8)
			if got, n, bad := impl.AllFrames(b); !slices.Equal(got, frames[:place]) || n != start || !bad {
				t.Errorf("AllFrames with byte %d turned: %v, %d, %t", i, got, n, bad)
			}
			for n := 1; n <= len(b); n++ {
				d, got := readPieces(t, slices.Collect(slices.Chunk(b, n))...)
				if !slices.Equal(got, frames[:place]) || !sameDecoder(d, impl.Decoder{Bad: true}) {
					t.Errorf("pieces of %d with byte %d turned: %v, left %v, bad %t", n, i, got, d.Buf, d.Bad)
				}
			}
		}
	}
}

func TestAllFrames(t *testing.T) {
	e, m := event(258, 7, -1), mark(5)
	b := bytesOf(e, m, bye())
	full := slices.Concat(slices.Repeat([]impl.Frame{e}, 26), slices.Repeat([]impl.Frame{m}, 4))
	for _, c := range []struct {
		b    []byte
		want []impl.Frame
		n    int
		bad  bool
	}{
		{nil, nil, 0, false}, {[]byte{}, nil, 0, false}, {b, []impl.Frame{e, m, bye()}, 29, false},
		{b[:28], []impl.Frame{e, m}, 23, false}, {b[:23], []impl.Frame{e, m}, 23, false}, {b[:22], []impl.Frame{e}, 14, false},
		{b[:13], nil, 0, false}, {append(slices.Clone(b), 0), []impl.Frame{e, m, bye()}, 29, true},
		{append([]byte{0}, b...), nil, 0, true}, {append(slices.Clone(b[:14]), 9, 2), []impl.Frame{e}, 14, true},
		{append(bytesOf(m, m), 9, 2, 0), []impl.Frame{m, m}, 18, true},
		{bytesOf(full...), full, impl.MaxBuf, false}, {append(bytesOf(full...), 9), nil, 0, true},
		{append(bytesOf(full[1:]...), 9), full[1:], 386, false}, {make([]byte, impl.MaxBuf), nil, 0, true},
		{bytes.Repeat(bytesOf(m), 45), nil, 0, true}, {make([]byte, impl.MaxBuf+1), nil, 0, true},
	} {
		got, n, bad := impl.AllFrames(c.b)
		if !slices.Equal(got, c.want) || n != c.n || bad != c.bad {
			t.Errorf("AllFrames of %d bytes: %v, %d, %t; want %v, %d, %t", len(c.b), got, n, bad, c.want, c.n, c.bad)
		}
	}
}

// turnAll turns every byte, also of those that are kept behind the end of b.
func turnAll(b []byte) {
	for i := range b[:cap(b)] {
		b[:cap(b)][i] ^= 255
	}
}

func TestFeedingSharesNoMemory(t *testing.T) {
	for _, bad := range []bool{false, true} {
		buf := append(make([]byte, 0, 100), 1, 2, 3)
		piece := append(make([]byte, 0, 100), 4, 5)
		d, _ := impl.FeedBytes(impl.Decoder{Buf: buf, Bad: bad}, piece)
		want := slices.Clone(d.Buf)
		if !slices.Equal(buf, []byte{1, 2, 3}) || !slices.Equal(piece, []byte{4, 5}) || !bytes.Equal(buf[3:100], make([]byte, 97)) {
			t.Errorf("FeedBytes wrote into its arguments, bad %t", bad)
		}
		turnAll(buf)
		turnAll(piece)
		if !bytes.Equal(d.Buf, want) {
			t.Errorf("FeedBytes shares memory, bad %t", bad)
		}
	}
}

func TestTakingSharesNoMemory(t *testing.T) {
	m := impl.PutFrame(mark(5))
	for _, d := range []impl.Decoder{
		{Buf: slices.Concat(m, m, m[:5])}, {Buf: slices.Clone(m[:5])}, {Buf: slices.Clone(m), Bad: true},
		{Buf: make([]byte, impl.MaxBuf+1)}, {Buf: []byte{200, 200}},
	} {
		given := slices.Clone(d.Buf)
		next, _, _ := impl.TakeNext(d)
		impl.TakeFrame(d.Buf)
		impl.AllFrames(d.Buf)
		impl.Check(d.Buf)
		if !bytes.Equal(d.Buf, given) {
			t.Errorf("%v was written into", given)
		}
		want := slices.Clone(next.Buf)
		turnAll(d.Buf)
		if !bytes.Equal(next.Buf, want) {
			t.Errorf("TakeNext of %v shares memory", given)
		}
	}
}
