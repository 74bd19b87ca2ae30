package tests

import (
	"fmt"
	"math"
	"slices"
	"testing"

	"loop.example/g00728/impl"
)

func opTick(n int) impl.Op { return impl.Op{Kind: 0, A: n} }

func opOpen() impl.Op { return impl.Op{Kind: 1} }

func opBytes(conn int, b []byte) impl.Op { return impl.Op{Kind: 2, A: conn, Data: b} }

func opFeed(conn int, list ...impl.Frame) impl.Op { return opBytes(conn, bytesOf(list...)) }

func opClose(conn int) impl.Op { return impl.Op{Kind: 3, A: conn} }

func opRead(conn int) impl.Op { return impl.Op{Kind: 4, A: conn} }

func opRoute() impl.Op { return impl.Op{Kind: 5} }

func opShard(shard int) impl.Op { return impl.Op{Kind: 6, A: shard} }

func opSink(takes int) impl.Op { return impl.Op{Kind: 7, A: takes} }

func opEnd() impl.Op { return impl.Op{Kind: 8} }

// bent are bytes with which no frame begins.
func bent() []byte { return []byte{200, 1, 2} }

// noPlaces are places that none of n has.
func noPlaces(n int) []int {
	return []int{-1, -2, -impl.MaxConns, n, n + 1, 2*n + 7, 1 << 32, -1 << 32, math.MaxInt, math.MinInt}
}

func opsText(ops []impl.Op) string {
	text := ""
	for _, op := range ops {
		text += fmt.Sprintf("(%d %d", op.Kind, op.A)
		if len(op.Data) > 60 {
			text += fmt.Sprintf(" %d bytes", len(op.Data))
		} else if op.Data != nil {
			text += fmt.Sprint(" ", op.Data)
		}
		text += ") "
	}
	return text
}

// A script plays op behind op and keeps what came of it.
type script struct {
	t     *testing.T
	setup impl.Setup
	ops   []impl.Op
	e     impl.Engine
	out   []impl.Agg
	codes []int
}

func aScript(t *testing.T, change func(s *impl.Setup)) *script {
	t.Helper()
	s := impl.DefaultSetup()
	change(&s)
	e, ok := impl.NewEngine(s)
	if !ok {
		t.Fatalf("no new engine of %v", s)
	}
	return &script{t: t, setup: s, e: e}
}

// sameEngine takes an empty list and nil as the same.
func sameEngine(a impl.Engine, b impl.Engine) bool { return fmt.Sprint(a) == fmt.Sprint(b) }

// apart is an engine that can be changed without being seen in e.
func apart(e impl.Engine) impl.Engine {
	e.Conns = slices.Clone(e.Conns)
	for i, c := range e.Conns {
		e.Conns[i].Decoder.Buf = slices.Clone(c.Decoder.Buf)
	}
	e.In, e.Out, e.Sent = slices.Clone(e.In), slices.Clone(e.Out), slices.Clone(e.Sent)
	e.Queues = slices.Clone(e.Queues)
	for i, q := range e.Queues {
		e.Queues[i] = slices.Clone(q)
	}
	e.Shards = slices.Clone(e.Shards)
	for i, s := range e.Shards {
		e.Shards[i].Aggs = slices.Clone(s.Aggs)
	}
	return e
}

// step plays one op more, and checks all that must hold behind every op.
func (r *script) step(op impl.Op) int {
	r.t.Helper()
	was, n := r.e, len(r.codes)
	r.ops = append(r.ops, op)
	e, out, codes, ok := impl.PlayEngine(r.setup, r.ops)
	if !ok || len(codes) != n+1 || !slices.Equal(codes[:n], r.codes) || len(out) < len(r.out) || !slices.Equal(out[:len(r.out)], r.out) {
		r.t.Fatalf("%v: told %v, emitted %v, %v; before the last op told %v, emitted %v", opsText(r.ops), codes, out, ok, r.codes, r.out)
	}
	code, emitted := codes[n], out[len(r.out):]
	r.e, r.out, r.codes = e, out, codes
	r.checkCode(was, op, code, emitted)
	r.checkSafe()
	r.checkMarks(was)
	r.checkMarkOfAll(was, op, code)
	for _, a := range emitted {
		if end := (a.Win+1)*r.setup.Size - 1; was.Mode == impl.ModeRuns && end > e.Mark {
			r.t.Fatalf("%v: %v is emitted ahead of its time %d, at the mark %d", opsText(r.ops), a, end, e.Mark)
		}
	}
	return code
}

// checkCode: what was not done leaves all as it was, but for the bytes that were refused.
func (r *script) checkCode(was impl.Engine, op impl.Op, code int, emitted []impl.Agg) {
	r.t.Helper()
	if code == impl.OpDone {
		return
	}
	if code == impl.OpBad && op.Kind == 2 {
		was.Tally.Refused = r.e.Tally.Refused
	}
	if code != impl.OpIdle && code != impl.OpBad || len(emitted) > 0 || !sameEngine(r.e, was) {
		r.t.Fatalf("%v: the last op tells %d, and %+v becomes %+v", opsText(r.ops), code, was, r.e)
	}
}

func (r *script) checkSafe() {
	r.t.Helper()
	e, y := r.e, r.e.Tally
	late, over := 0, 0
	held := slices.Concat(r.out, e.Out)
	for _, s := range e.Shards {
		late, over = late+s.Late, over+s.Over
		held = append(held, s.Aggs...)
	}
	counts, seen := 0, map[[2]int]bool{}
	for _, a := range held {
		if seen[[2]int{a.Win, a.Key}] {
			r.t.Fatalf("%v: %v comes twice", opsText(r.ops), a)
		}
		seen[[2]int{a.Win, a.Key}] = true
		counts += a.Count
	}
	if !impl.EngineSafe(e) || y.Read != y.Taken+y.Late+y.Over+impl.InFlight(e) {
		r.t.Fatalf("%v: not safe, or an event is lost, with %d in flight: %+v", opsText(r.ops), impl.InFlight(e), e)
	}
	if counts != y.Taken || late != y.Late || over != y.Over || e.Setup != r.setup {
		r.t.Fatalf("%v: emitted, held and out are %d, %d late, %d over: %+v", opsText(r.ops), counts, late, over, e)
	}
}

func (r *script) checkMarks(was impl.Engine) {
	r.t.Helper()
	fell := r.e.Mark < was.Mark || r.e.Now < was.Now || r.e.Mode < was.Mode || len(r.e.Conns) < len(was.Conns)
	for i, m := range was.Sent {
		fell = fell || r.e.Sent[i] < m || r.e.Shards[i].Mark < was.Shards[i].Mark
	}
	for i, c := range was.Conns {
		now := r.e.Conns[i].Source
		fell = fell || now.Mark < c.Source.Mark || now.Max < c.Source.Max || now.Seen < c.Source.Seen || now.Open && !c.Source.Open
	}
	if fell {
		r.t.Fatalf("%v: something fell: %+v, then %+v", opsText(r.ops), was, r.e)
	}
}

// checkMarkOfAll: it is that of the slowest source that is active, or where it was; and behind a
// tick none is active that was silent for as long as it may be.
func (r *script) checkMarkOfAll(was impl.Engine, op impl.Op, code int) {
	r.t.Helper()
	want, slowest := was.Mark, impl.MaxTime+1
	for _, c := range r.e.Conns {
		s := c.Source
		if !s.Open || s.Idle {
			continue
		}
		slowest = min(slowest, s.Mark)
		if after := r.setup.IdleAfter; op.Kind == 0 && code == impl.OpDone && after > 0 && r.e.Now-s.Seen >= after {
			r.t.Fatalf("%v: %+v is silent for too long at %d", opsText(r.ops), s, r.e.Now)
		}
	}
	marks := code == impl.OpDone && slices.Contains([]int{0, 3, 4, 8}, op.Kind)
	if marks && slowest <= impl.MaxTime {
		want = max(want, slowest)
	}
	if r.e.Mark != want {
		r.t.Fatalf("%v: the mark is %d, want %d: %+v", opsText(r.ops), r.e.Mark, want, r.e)
	}
}

func (r *script) want(code int, ops ...impl.Op) {
	r.t.Helper()
	for _, op := range ops {
		if got := r.step(op); got != code {
			r.t.Fatalf("the last op of %v tells %d, want %d, at %+v", opsText(r.ops), got, code, r.e)
		}
	}
}

func (r *script) done(ops ...impl.Op) { r.t.Helper(); r.want(impl.OpDone, ops...) }

func (r *script) idle(ops ...impl.Op) { r.t.Helper(); r.want(impl.OpIdle, ops...) }

func (r *script) bad(ops ...impl.Op) { r.t.Helper(); r.want(impl.OpBad, ops...) }

// changes wants just the changes that are told, and all else as it was.
func (r *script) changes(op impl.Op, change func(e *impl.Engine)) {
	r.t.Helper()
	want := apart(r.e)
	change(&want)
	r.done(op)
	if !sameEngine(r.e, want) {
		r.t.Fatalf("%v:\ngot  %+v\nwant %+v", opsText(r.ops), r.e, want)
	}
}

func (r *script) emits(want ...impl.Agg) {
	r.t.Helper()
	if !slices.Equal(r.out, want) {
		r.t.Fatalf("%v: emitted %v, want %v", opsText(r.ops), r.out, want)
	}
}

// aKey is a key of a shard of two.
func aKey(shard int, i int) int { return impl.KeysOf(shard, 2, i+1)[i] }

func TestEngineLimits(t *testing.T) {
	if impl.MaxOps != 300 || impl.MaxConns != 12 {
		t.Error("limits")
	}
	if impl.ModeRuns != 0 || impl.ModeDrains != 1 || impl.ModeDrained != 2 {
		t.Error("modes")
	}
	if impl.OpDone != 0 || impl.OpIdle != 1 || impl.OpBad != 2 {
		t.Error("codes")
	}
}

// plainEngine is a new engine, written field by field.
func plainEngine(s impl.Setup) impl.Engine {
	e := impl.Engine{Setup: s, Mark: -1}
	for range s.Shards {
		e.Queues = append(e.Queues, nil)
		e.Shards = append(e.Shards, impl.Shard{Mark: -1})
		e.Sent = append(e.Sent, -1)
	}
	return e
}

func TestNewEngine(t *testing.T) {
	for _, n := range someNumbers() {
		s := aSetup(n)
		e, ok := impl.NewEngine(s)
		if !ok || !sameEngine(e, plainEngine(s)) || !impl.EngineSafe(e) {
			t.Fatalf("NewEngine(%v) = %+v, %v", s, e, ok)
		}
		played, out, codes, ok := impl.PlayEngine(s, nil)
		if !ok || !sameEngine(played, e) || len(out) != 0 || len(codes) != 0 {
			t.Fatalf("PlayEngine(%v, none) = %+v, %v, %v, %v", s, played, out, codes, ok)
		}
	}
	for _, n := range noNumbers() {
		if e, ok := impl.NewEngine(aSetup(n)); ok || !sameEngine(e, impl.Engine{}) {
			t.Fatalf("NewEngine(%v) = %+v, %v", n, e, ok)
		}
	}
}

func checkNoPlay(t *testing.T, s impl.Setup, ops []impl.Op) {
	t.Helper()
	e, out, codes, ok := impl.PlayEngine(s, ops)
	if ok || !sameEngine(e, impl.Engine{}) || len(out) != 0 || len(codes) != 0 {
		t.Errorf("PlayEngine(%v, %d ops) = %+v, %v, %v, %v", s, len(ops), e, out, codes, ok)
	}
}

func TestPlayEngineRefuses(t *testing.T) {
	ops := []impl.Op{opOpen(), opTick(3)}
	for _, n := range noNumbers() {
		checkNoPlay(t, aSetup(n), nil)
		checkNoPlay(t, aSetup(n), ops)
	}
	for _, n := range []int{impl.MaxOps + 1, impl.MaxOps + 2, 1000} {
		checkNoPlay(t, impl.DefaultSetup(), slices.Repeat(ops[1:], n))
	}
	e, _, codes, ok := impl.PlayEngine(impl.DefaultSetup(), slices.Repeat(ops[1:], impl.MaxOps))
	if !ok || len(codes) != impl.MaxOps || e.Now != 3*impl.MaxOps {
		t.Errorf("%d ops: %+v, %v, %v", impl.MaxOps, e, codes, ok)
	}
}

func TestOtherKinds(t *testing.T) {
	r := aScript(t, func(s *impl.Setup) {})
	r.done(opOpen(), opFeed(0, event(1, 2, 3), bye()), opRead(0))
	for _, kind := range []int{-1, 9, 10, -9, 255, 256, 1 << 32, -1 << 32, math.MaxInt, math.MinInt} {
		r.bad(impl.Op{Kind: kind}, impl.Op{Kind: kind, A: 1, B: 1, Data: []byte{1}})
	}
	if r.e.Tally.Refused != 0 {
		t.Errorf("%d bytes are refused", r.e.Tally.Refused)
	}
}

// What a kind does not name, is not looked at.
func TestFieldsThatNoKindNames(t *testing.T) {
	frames := bytesOf(event(1, 2, 3), event(1, 40, 4))
	ops := []impl.Op{opOpen(), opTick(2), opBytes(0, frames), opRead(0), opRead(0), opRoute(), opRoute(), opShard(0), opShard(0), opShard(0), opSink(1), opClose(0), opEnd()}
	e, out, codes, _ := impl.PlayEngine(impl.DefaultSetup(), ops)
	for i := range ops {
		ops[i].B = 7 - i
		if ops[i].Kind != 2 {
			ops[i].Data = []byte{9, 9}
		}
		if ops[i].Kind == 1 || ops[i].Kind == 5 || ops[i].Kind == 8 {
			ops[i].A = -1 - i
		}
	}
	again, outAgain, codesAgain, ok := impl.PlayEngine(impl.DefaultSetup(), ops)
	if !ok || !sameEngine(again, e) || !slices.Equal(outAgain, out) || !slices.Equal(codesAgain, codes) || slices.Max(codes) != impl.OpDone {
		t.Errorf("%+v, %v, %v, %v, want %+v, %v, %v", again, outAgain, codesAgain, ok, e, out, codes)
	}
}

func TestOpTick(t *testing.T) {
	r := aScript(t, func(s *impl.Setup) { s.IdleAfter = 5 })
	r.changes(opTick(0), func(*impl.Engine) {})
	r.changes(opTick(1), func(e *impl.Engine) { e.Now = 1 })
	r.changes(opTick(1000), func(e *impl.Engine) { e.Now = 1001 })
	r.done(opOpen())
	r.changes(opTick(4), func(e *impl.Engine) { e.Now = 1005 })
	r.changes(opTick(0), func(*impl.Engine) {})
	r.done(opOpen())
	r.changes(opTick(1), func(e *impl.Engine) { e.Now, e.Conns[0].Source.Idle = 1006, true })
	r.changes(opTick(1000), func(e *impl.Engine) { e.Now, e.Conns[1].Source.Idle = 2006, true })
	r.done(opClose(0))
	r.changes(opTick(999), func(e *impl.Engine) { e.Now = 3005 })
	for _, x := range []int{-1, -2, -1000, 1001, 1002, impl.MaxTick, 1 << 32, -1 << 32, math.MaxInt, math.MinInt} {
		r.bad(opTick(x))
	}
	r.done(opEnd())
	r.changes(opTick(7), func(e *impl.Engine) { e.Now = 3012 })
	r.bad(opTick(-1), opTick(1001))
}

func TestNeverIdleAfterNought(t *testing.T) {
	r := aScript(t, func(s *impl.Setup) { s.IdleAfter = 0 })
	r.done(opOpen(), opOpen(), opFeed(0, event(1, 700, 1)), opRead(0))
	for i := range 20 {
		r.changes(opTick(1000), func(e *impl.Engine) { e.Now = 1000 * (i + 1) })
	}
	if r.e.Mark != noMark {
		t.Errorf("the mark is %d with a source that said nothing", r.e.Mark)
	}
}

func TestOpOpen(t *testing.T) {
	fresh := func(now int) impl.Conn {
		return impl.Conn{Source: impl.Source{Max: -1, Mark: -1, Seen: now, Open: true}}
	}
	for sources := 1; sources <= 6; sources++ {
		r := aScript(t, func(s *impl.Setup) { s.Sources, s.IdleAfter = sources, 2 })
		for i := range sources {
			r.done(opTick(1))
			r.changes(opOpen(), func(e *impl.Engine) { e.Conns = append(e.Conns, fresh(i+1)) })
		}
		// Those that are idle are still open.
		r.bad(opOpen())
		r.done(opTick(1000))
		r.bad(opOpen())
		for i := sources; i < impl.MaxConns; i++ {
			r.done(opClose(i - sources))
			r.changes(opOpen(), func(e *impl.Engine) { e.Conns = append(e.Conns, fresh(1000+sources)) })
			r.bad(opOpen())
		}
		r.done(opClose(impl.MaxConns - 1))
		r.bad(opOpen())
	}
}

func TestNoConnIsOpenedBehindTheEnd(t *testing.T) {
	r := aScript(t, func(s *impl.Setup) {})
	r.done(opOpen(), opFeed(0, bye()), opEnd())
	if r.e.Mode != impl.ModeDrains {
		t.Fatalf("%+v", r.e)
	}
	r.bad(opOpen())
	r.done(opRead(0))
	if r.e.Mode != impl.ModeDrained {
		t.Fatalf("%+v", r.e)
	}
	r.bad(opOpen())
}

// A new connection has said nothing: it holds the mark of all, but the mark does not fall.
func TestAnOpenedConnHoldsTheMark(t *testing.T) {
	r := aScript(t, func(s *impl.Setup) {})
	r.done(opOpen(), opFeed(0, mark(50), mark(60)), opRead(0))
	r.changes(opOpen(), func(e *impl.Engine) {
		e.Conns = append(e.Conns, impl.Conn{Source: impl.Source{Max: -1, Mark: -1, Open: true}})
	})
	r.done(opRead(0))
	if r.e.Mark != 50 || r.e.Conns[0].Source.Mark != 60 {
		t.Errorf("%+v", r.e)
	}
}

func TestOpFeed(t *testing.T) {
	r := aScript(t, func(s *impl.Setup) {})
	for _, place := range noPlaces(0) {
		r.bad(opFeed(place, bye()))
	}
	r.done(opOpen(), opOpen(), opTick(3))
	b := bytesOf(event(1, 2, 3), mark(9))
	r.changes(opBytes(1, b[:5]), func(e *impl.Engine) { e.Conns[1].Decoder.Buf = b[:5] })
	r.changes(opBytes(1, nil), func(*impl.Engine) {})
	r.changes(opBytes(1, b[5:]), func(e *impl.Engine) { e.Conns[1].Decoder.Buf = b })
	r.changes(opBytes(0, bent()), func(e *impl.Engine) { e.Conns[0].Decoder.Buf = bent() })
	for _, place := range noPlaces(2) {
		r.bad(opFeed(place, bye()), opBytes(place, nil))
	}
	r.changes(opBytes(1, make([]byte, impl.MaxBuf-len(b))), func(e *impl.Engine) {
		e.Conns[1].Decoder.Buf = append(e.Conns[1].Decoder.Buf, make([]byte, impl.MaxBuf-len(b))...)
	})
	r.bad(opBytes(1, []byte{1}), opFeed(1, event(1, 2, 3)), opBytes(0, make([]byte, impl.MaxBuf-len(bent())+1)), opBytes(0, make([]byte, 1000)))
	r.changes(opBytes(1, nil), func(*impl.Engine) {})
	if r.e.Tally != (impl.Tally{}) {
		t.Errorf("%+v", r.e.Tally)
	}
}

func (r *script) refuses(op impl.Op, want int) {
	r.t.Helper()
	r.bad(op)
	if r.e.Tally.Refused != want {
		r.t.Fatalf("%v: %d bytes are refused, want %d", opsText(r.ops), r.e.Tally.Refused, want)
	}
}

func TestBytesThatAreRefused(t *testing.T) {
	r := aScript(t, func(s *impl.Setup) {})
	r.done(opOpen(), opOpen(), opFeed(0, event(1, 2, 3)), opBytes(1, bent()), opFeed(1, bye()), opClose(0))
	r.refuses(opBytes(0, []byte{1, 2, 3}), 3)
	r.refuses(opBytes(0, nil), 3)
	// More than ever fits is refused as well, and a place without a connection is not.
	r.refuses(opBytes(0, make([]byte, 1000)), 1003)
	r.refuses(opBytes(2, []byte{1, 2, 3}), 1003)
	r.refuses(opBytes(-1, []byte{1, 2, 3}), 1003)
	// Bad bytes close the source when they are read.
	r.done(opRead(1))
	r.refuses(opBytes(1, []byte{1, 2}), 1005)
	r.done(opOpen(), opFeed(2, bye(), event(1, 2, 3)), opRead(2))
	r.refuses(opBytes(2, []byte{7}), 1006)
	r.done(opOpen(), opEnd())
	r.refuses(opBytes(3, []byte{1, 2, 3, 4}), 1010)
	r.refuses(opBytes(0, []byte{1, 2, 3, 4}), 1014)
	r.refuses(opBytes(4, []byte{1, 2, 3, 4}), 1014)
	r.done(opRead(0), opRead(2), opRoute(), opRoute(), opShard(0), opShard(0), opShard(0), opSink(1))
	if r.e.Mode != impl.ModeDrained {
		t.Fatalf("%+v", r.e)
	}
	r.refuses(opBytes(3, []byte{1}), 1015)
}

func TestRefusedStaysAtItsBound(t *testing.T) {
	big := make([]byte, 4000000)
	ops := append([]impl.Op{opOpen(), opClose(0)}, slices.Repeat([]impl.Op{opBytes(0, big)}, 250)...)
	for _, c := range []struct {
		last []byte
		want int
	}{
		{nil, impl.MaxSum}, {big[:1], impl.MaxSum}, {big, impl.MaxSum},
	} {
		e, _, _, ok := impl.PlayEngine(impl.DefaultSetup(), append(ops[:len(ops):len(ops)], opBytes(0, c.last)))
		if !ok || e.Tally.Refused != c.want {
			t.Errorf("%d bytes more: %d are refused, want %d", len(c.last), e.Tally.Refused, c.want)
		}
	}
	e, _, _, _ := impl.PlayEngine(impl.DefaultSetup(), append(ops[:len(ops)-1:len(ops)], opBytes(0, big[1:])))
	if e.Tally.Refused != impl.MaxSum-1 {
		t.Errorf("%d are refused, want %d", e.Tally.Refused, impl.MaxSum-1)
	}
}

func TestOpClose(t *testing.T) {
	r := aScript(t, func(s *impl.Setup) { s.IdleAfter = 5 })
	r.done(opOpen(), opOpen(), opOpen(), opFeed(0, mark(20)), opFeed(1, mark(30), bye()), opRead(0), opRead(1))
	for _, place := range noPlaces(3) {
		r.bad(opClose(place))
	}
	// The silent one held the mark of all; one that is closed does not, and the frames behind it stay.
	r.changes(opClose(2), func(e *impl.Engine) { e.Conns[2].Source.Open, e.Mark = false, 20 })
	r.bad(opClose(2))
	r.changes(opClose(0), func(e *impl.Engine) { e.Conns[0].Source.Open, e.Mark = false, 30 })
	r.done(opTick(5))
	if !r.e.Conns[1].Source.Idle {
		t.Fatalf("%+v", r.e)
	}
	r.changes(opClose(1), func(e *impl.Engine) { e.Conns[1].Source.Open, e.Conns[1].Source.Idle = false, false })
	r.bad(opClose(0), opClose(1), opClose(2))
	r.done(opOpen(), opEnd())
	r.bad(opClose(3), opClose(1))
}

func TestOpReadOfAnEvent(t *testing.T) {
	r := aScript(t, func(s *impl.Setup) { s.Late, s.IdleAfter = 2, 5 })
	first, second, third := event(1, 30, 5), event(2, 12, -5), event(3, 33, 0)
	r.done(opTick(4), opOpen(), opFeed(0, first, second, third), opTick(5))
	if !r.e.Conns[0].Source.Idle {
		t.Fatalf("%+v", r.e)
	}
	r.changes(opRead(0), func(e *impl.Engine) {
		e.Tally.Read, e.Mark = 1, 27
		e.Conns[0] = impl.Conn{Decoder: impl.Decoder{Buf: bytesOf(second, third)}, Source: impl.Source{Max: 30, Mark: 27, Seen: 9, Open: true}}
		e.In = append(e.In, impl.Msg{Frame: first, Mark: 27})
	})
	r.done(opTick(1))
	r.changes(opRead(0), func(e *impl.Engine) {
		e.Tally.Read = 2
		e.Conns[0].Decoder.Buf, e.Conns[0].Source.Seen = bytesOf(third), 10
		e.In = append(e.In, impl.Msg{Frame: second, Mark: 27})
	})
	r.done(opOpen())
	r.changes(opRead(0), func(e *impl.Engine) {
		e.Tally.Read = 3
		e.Conns[0] = impl.Conn{Source: impl.Source{Max: 33, Mark: 30, Seen: 10, Open: true}}
		e.In = append(e.In, impl.Msg{Frame: third, Mark: 27})
	})
}

func TestOpReadOfAMarkAndABye(t *testing.T) {
	r := aScript(t, func(s *impl.Setup) { s.IdleAfter = 5 })
	r.done(opOpen(), opOpen(), opFeed(0, mark(30), mark(20), bye(), bye()), opFeed(1, mark(45)), opBytes(1, bent()), opTick(5))
	r.changes(opRead(0), func(e *impl.Engine) {
		e.Mark = 30
		e.Conns[0] = impl.Conn{Decoder: impl.Decoder{Buf: bytesOf(mark(20), bye(), bye())}, Source: impl.Source{Max: -1, Mark: 30, Seen: 5, Open: true}}
	})
	r.done(opTick(2))
	r.changes(opRead(0), func(e *impl.Engine) {
		e.Conns[0].Decoder.Buf, e.Conns[0].Source.Seen = bytesOf(bye(), bye()), 7
	})
	r.done(opRead(1))
	r.changes(opRead(0), func(e *impl.Engine) {
		e.Conns[0].Decoder.Buf, e.Conns[0].Source.Open, e.Mark = bytesOf(bye()), false, 45
	})
	r.changes(opRead(0), func(e *impl.Engine) { e.Conns[0].Decoder.Buf = nil })
	r.changes(opRead(1), func(e *impl.Engine) {
		e.Conns[1].Decoder, e.Conns[1].Source.Open, e.Tally.Bent = impl.Decoder{Bad: true}, false, 1
	})
	r.idle(opRead(0), opRead(1))
}

// Bytes that are bad let the mark of all go on, as a bye does.
func TestOpReadOfBadBytes(t *testing.T) {
	r := aScript(t, func(s *impl.Setup) {})
	r.done(opOpen(), opOpen(), opOpen(), opFeed(0, mark(30)), opRead(0))
	b := bytesOf(event(1, 2, 3))
	b[4] ^= 1
	r.done(opBytes(1, b))
	r.changes(opRead(1), func(e *impl.Engine) {
		e.Conns[1].Decoder, e.Conns[1].Source.Open, e.Tally.Bent = impl.Decoder{Bad: true}, false, 1
	})
	r.done(opBytes(2, append(bytesOf(mark(20)), b...)), opRead(2))
	if r.e.Mark != 20 {
		t.Fatalf("%+v", r.e)
	}
	r.changes(opRead(2), func(e *impl.Engine) {
		e.Conns[2].Decoder, e.Conns[2].Source.Open, e.Tally.Bent, e.Mark = impl.Decoder{Bad: true}, false, 2, 30
	})
	r.idle(opRead(1), opRead(2))
	r.bad(opClose(1), opClose(2))
}

// The frames of a connection that is closed are read on, but its source says nothing any more.
func TestOpReadOfAClosedConn(t *testing.T) {
	for _, end := range []bool{false, true} {
		r := aScript(t, func(s *impl.Setup) {})
		list := []impl.Frame{event(1, 90, 5), mark(95), bye(), event(2, 96, 6)}
		r.done(opOpen(), opOpen(), opFeed(1, mark(40)), opRead(1), opFeed(0, list...), opBytes(0, bent()), opTick(2))
		if end {
			r.done(opEnd())
		} else {
			r.done(opClose(0))
		}
		seen := r.e.Mark
		r.changes(opRead(0), func(e *impl.Engine) {
			e.Tally.Read, e.Conns[0].Decoder.Buf = 1, append(bytesOf(list[1:]...), bent()...)
			e.In = append(e.In, impl.Msg{Frame: list[0], Mark: seen})
		})
		r.changes(opRead(0), func(e *impl.Engine) { e.Conns[0].Decoder.Buf = append(bytesOf(list[2:]...), bent()...) })
		r.changes(opRead(0), func(e *impl.Engine) { e.Conns[0].Decoder.Buf = append(bytesOf(list[3:]...), bent()...) })
		r.changes(opRead(0), func(e *impl.Engine) {
			e.Tally.Read, e.Conns[0].Decoder.Buf = 2, bent()
			e.In = append(e.In, impl.Msg{Frame: list[3], Mark: seen})
		})
		r.changes(opRead(0), func(e *impl.Engine) { e.Tally.Bent, e.Conns[0].Decoder = 1, impl.Decoder{Bad: true} })
		r.idle(opRead(0))
	}
}

func TestOpReadWithoutAFrame(t *testing.T) {
	r := aScript(t, func(s *impl.Setup) {})
	for _, place := range noPlaces(0) {
		r.bad(opRead(place))
	}
	r.done(opOpen(), opOpen())
	r.idle(opRead(0), opRead(1))
	b := bytesOf(event(1, 2, 3))
	for i := range b {
		r.idle(opRead(0))
		r.done(opBytes(0, b[i:i+1]))
	}
	r.idle(opRead(1))
	for _, place := range noPlaces(2) {
		r.bad(opRead(place))
	}
	r.done(opRead(0))
	r.idle(opRead(0))
}

// A read with a full In takes nothing, whatever the frame is.
func TestOpReadWithAFullIn(t *testing.T) {
	for _, room := range []int{1, 2, 7, impl.MaxCap} {
		for _, b := range [][]byte{bytesOf(event(1, 2, 3)), bytesOf(mark(700)), bytesOf(bye()), bent()} {
			r := aScript(t, func(s *impl.Setup) { s.CapIn = room })
			r.done(opOpen(), opOpen(), opBytes(1, b))
			for range room {
				r.done(opFeed(0, event(1, 2, 3)), opRead(0))
			}
			r.idle(opRead(1), opRead(0))
			// No such connection counts ahead of a full In.
			for _, place := range noPlaces(2) {
				r.bad(opRead(place))
			}
			r.done(opRoute())
			if len(r.e.In) != room-1 || !impl.Readable(r.e, 1) {
				t.Fatalf("%+v", r.e)
			}
			r.done(opRead(1))
		}
	}
}

func TestOpRouteOfEvents(t *testing.T) {
	for shards := 1; shards <= 4; shards++ {
		r := aScript(t, func(s *impl.Setup) { s.Shards, s.CapIn, s.CapShard = shards, 20, 20 })
		r.done(opOpen())
		var sent []impl.Msg
		for i := range 16 {
			f := event(i*i*37, 10*i, i)
			r.done(opFeed(0, f), opRead(0))
			sent = append(sent, impl.Msg{Frame: f, Mark: max(10*i-3, -1)})
		}
		for i, msg := range sent {
			to := impl.ShardOf(msg.Frame.Key, shards)
			r.changes(opRoute(), func(e *impl.Engine) {
				e.In = sent[i+1:]
				e.Queues[to] = append(e.Queues[to], msg)
				e.Sent[to] = msg.Mark
			})
		}
	}
}

// While the first of In can't go, nothing goes: neither those behind it nor a mark.
func TestOpRouteWithAFullQueue(t *testing.T) {
	for _, room := range []int{1, 2, 3, impl.MaxCap} {
		r := aScript(t, func(s *impl.Setup) { s.CapShard = room })
		r.done(opOpen())
		for i := range room {
			r.done(opFeed(0, event(aKey(0, 0), 10*i, i)), opRead(0), opRoute())
		}
		r.done(opFeed(0, event(aKey(0, 1), 300, 1), event(aKey(1, 0), 310, 1)), opRead(0))
		r.idle(opRoute())
		r.done(opRead(0))
		r.idle(opRoute())
		r.done(opShard(0))
		r.changes(opRoute(), func(e *impl.Engine) {
			e.In = e.In[1:]
			e.Queues[0] = append(e.Queues[0], impl.Msg{Frame: event(aKey(0, 1), 300, 1), Mark: 297})
			e.Sent[0] = 297
		})
		r.changes(opRoute(), func(e *impl.Engine) {
			e.In = nil
			e.Queues[1] = append(e.Queues[1], impl.Msg{Frame: event(aKey(1, 0), 310, 1), Mark: 307})
			e.Sent[1] = 307
		})
	}
}

func TestOpRouteOfMarks(t *testing.T) {
	r := aScript(t, func(s *impl.Setup) { s.Shards, s.CapShard = 3, 1 })
	r.idle(opRoute())
	r.done(opOpen())
	r.idle(opRoute())
	key := impl.KeysOf(1, 3, 1)[0]
	r.done(opFeed(0, event(key, 30, 1), mark(60), mark(60), mark(70)), opRead(0), opRoute())
	// Shard 1 was told with the event.
	alone := []impl.Msg{{Mark: 27}}
	r.changes(opRoute(), func(e *impl.Engine) { e.Queues[0], e.Queues[2], e.Sent = alone, alone, []int{27, 27, 27} })
	r.idle(opRoute())
	r.done(opRead(0))
	// All queues are full.
	r.idle(opRoute())
	r.done(opShard(0))
	r.changes(opRoute(), func(e *impl.Engine) { e.Queues[0], e.Sent[0] = []impl.Msg{{Mark: 60}}, 60 })
	r.idle(opRoute())
	r.done(opShard(0), opShard(1), opRead(0))
	r.changes(opRoute(), func(e *impl.Engine) { e.Queues[1], e.Sent[1] = []impl.Msg{{Mark: 60}}, 60 })
	r.idle(opRoute())
	r.done(opShard(2), opShard(1), opRead(0))
	alone = []impl.Msg{{Mark: 70}}
	r.changes(opRoute(), func(e *impl.Engine) {
		e.Queues[0], e.Queues[1], e.Queues[2], e.Sent = alone, alone, alone, []int{70, 70, 70}
	})
	r.idle(opRoute())
}

func TestMarksStandBehindEvents(t *testing.T) {
	r := aScript(t, func(s *impl.Setup) { s.Shards, s.CapShard = 1, 3 })
	f := event(1, 30, 1)
	r.done(opOpen(), opFeed(0, f, mark(60), mark(80)), opRead(0), opRoute(), opRead(0))
	r.changes(opRoute(), func(e *impl.Engine) { e.Queues[0], e.Sent[0] = []impl.Msg{{Frame: f, Mark: 27}, {Mark: 60}}, 60 })
	r.done(opRead(0))
	r.changes(opRoute(), func(e *impl.Engine) {
		e.Queues[0], e.Sent[0] = []impl.Msg{{Frame: f, Mark: 27}, {Mark: 60}, {Mark: 80}}, 80
	})
	r.changes(opShard(0), func(e *impl.Engine) {
		e.Queues[0], e.Tally.Taken = e.Queues[0][1:], 1
		e.Shards[0] = impl.Shard{Aggs: []impl.Agg{anAgg(3, 1, 1)}, Mark: 27}
	})
	r.changes(opShard(0), func(e *impl.Engine) { e.Queues[0], e.Shards[0].Mark = e.Queues[0][1:], 60 })
}

func TestOpShardWithoutAShard(t *testing.T) {
	for shards := 1; shards <= 4; shards++ {
		r := aScript(t, func(s *impl.Setup) { s.Shards = shards })
		for _, place := range noPlaces(shards) {
			r.bad(opShard(place))
		}
		for place := range shards {
			r.idle(opShard(place))
		}
		r.done(opOpen(), opEnd())
		for place := range shards {
			r.idle(opShard(place))
		}
		r.bad(opShard(shards), opShard(-1))
	}
}

// The shard adds first and hears the mark then: an event is not late for the mark that comes with it.
func TestOpShardAddsAheadOfTheMark(t *testing.T) {
	r := aScript(t, func(s *impl.Setup) { s.Shards, s.Size = 1, 10 })
	r.done(opOpen(), opOpen(), opFeed(0, event(7, 15, 4), event(7, 16, 5), event(7, 25, 6)), opClose(0), opFeed(1, mark(19)), opRead(1))
	for range 3 {
		r.done(opRead(0), opRoute())
	}
	r.changes(opShard(0), func(e *impl.Engine) {
		e.Queues[0], e.Tally.Taken = e.Queues[0][1:], 1
		e.Shards[0] = impl.Shard{Aggs: []impl.Agg{anAgg(1, 7, 4)}, Mark: 19}
	})
	// Its window is closed: it goes out ahead of what waits.
	r.changes(opShard(0), func(e *impl.Engine) { e.Shards[0].Aggs, e.Out = nil, []impl.Agg{anAgg(1, 7, 4)} })
	r.changes(opShard(0), func(e *impl.Engine) { e.Queues[0], e.Tally.Late, e.Shards[0].Late = e.Queues[0][1:], 1, 1 })
	r.changes(opShard(0), func(e *impl.Engine) {
		e.Queues[0], e.Tally.Taken, e.Shards[0].Aggs = nil, 2, []impl.Agg{anAgg(2, 7, 6)}
	})
	r.idle(opShard(0))
}

func TestOpShardWithoutRoom(t *testing.T) {
	r := aScript(t, func(s *impl.Setup) { s.Shards, s.Room, s.Size = 1, 1, 10 })
	r.done(opOpen(), opFeed(0, event(7, 15, 4), event(8, 15, 5), event(7, 17, -6), event(7, 20, 1)))
	for range 4 {
		r.done(opRead(0), opRoute(), opShard(0))
	}
	if y := r.e.Tally; y != (impl.Tally{Read: 4, Taken: 2, Over: 2}) || r.e.Shards[0].Over != 2 {
		t.Errorf("%+v", r.e)
	}
	if want := anAgg(1, 7, 4, -6); len(r.e.Shards[0].Aggs) != 1 || r.e.Shards[0].Aggs[0] != want {
		t.Errorf("%+v, want %v", r.e.Shards, want)
	}
}

// Out may be full: then nothing more is handed on, but what waits is still added.
func TestOpShardWithAFullOut(t *testing.T) {
	for _, room := range []int{1, 2, 5, impl.MaxCap} {
		r := aScript(t, func(s *impl.Setup) { s.Shards, s.Room, s.CapOut = 1, impl.MaxAggs, room })
		r.done(opOpen())
		for key := range room + 1 {
			r.done(opFeed(0, event(key, 5, key)), opRead(0), opRoute(), opShard(0))
		}
		r.idle(opShard(0))
		r.done(opFeed(0, event(9, 50, 2), event(9, 60, 2)), opRead(0), opRoute(), opShard(0))
		for key := range room {
			r.changes(opShard(0), func(e *impl.Engine) {
				e.Shards[0].Aggs = e.Shards[0].Aggs[1:]
				e.Out = append(e.Out, anAgg(0, key, key))
			})
		}
		r.idle(opShard(0))
		r.done(opRead(0), opRoute())
		r.changes(opShard(0), func(e *impl.Engine) {
			e.Queues[0], e.Tally.Taken = nil, e.Tally.Taken+1
			e.Shards[0].Aggs, e.Shards[0].Mark = append(e.Shards[0].Aggs, anAgg(6, 9, 2)), 57
		})
		r.idle(opShard(0))
		r.done(opSink(1))
		r.changes(opShard(0), func(e *impl.Engine) {
			e.Shards[0].Aggs = e.Shards[0].Aggs[1:]
			e.Out = append(e.Out, anAgg(0, room, room))
		})
		r.idle(opShard(0))
		r.emits(anAgg(0, 0, 0))
	}
}

func TestOpSink(t *testing.T) {
	r := aScript(t, func(s *impl.Setup) { s.Shards, s.CapOut, s.Late = 1, 3, 50 })
	r.idle(opSink(0), opSink(1))
	r.bad(opSink(2), opSink(-1))
	r.done(opOpen(), opFeed(0, event(4, 15, 1), event(3, 15, 2), event(4, 5, 3), mark(99)))
	for range 4 {
		r.done(opRead(0), opRoute(), opShard(0))
	}
	r.done(opShard(0), opShard(0), opShard(0))
	want := []impl.Agg{anAgg(0, 4, 3), anAgg(1, 3, 2), anAgg(1, 4, 1)}
	for i := range want {
		r.idle(opSink(0))
		for _, x := range []int{2, 3, -1, -2, 1 << 32, 1<<32 + 1, -1 << 32, math.MaxInt, math.MinInt} {
			r.bad(opSink(x))
		}
		r.emits(want[:i]...)
		r.changes(opSink(1), func(e *impl.Engine) { e.Out = want[i+1:] })
		r.emits(want[:i+1]...)
	}
	r.idle(opSink(1), opSink(0))
	r.bad(opSink(2), opSink(-1))
}

func TestOpEnd(t *testing.T) {
	r := aScript(t, func(s *impl.Setup) { s.IdleAfter = 5 })
	r.done(opOpen(), opOpen(), opOpen(), opClose(1), opTick(3), opFeed(0, mark(40), event(1, 50, 1)), opRead(0), opTick(2))
	r.changes(opEnd(), func(e *impl.Engine) {
		e.Mode = impl.ModeDrains
		e.Conns[0].Source.Open, e.Conns[2].Source.Open, e.Conns[2].Source.Idle = false, false, false
	})
	if r.e.Mark != 40 {
		t.Errorf("%+v", r.e)
	}
	r.bad(opEnd())
	r.done(opRead(0), opRoute(), opShard(0), opShard(0))
	r.bad(opEnd())
	r.changes(opSink(1), func(e *impl.Engine) { e.Mode, e.Out = impl.ModeDrained, nil })
	r.bad(opEnd())
}

// An engine in which nothing is left is drained at once, also one with the beginning of a frame.
func TestOpEndOfAnEmptyEngine(t *testing.T) {
	r := aScript(t, func(s *impl.Setup) {})
	r.changes(opEnd(), func(e *impl.Engine) { e.Mode = impl.ModeDrained })
	r = aScript(t, func(s *impl.Setup) {})
	b := bytesOf(event(1, 2, 3))
	r.done(opOpen(), opOpen(), opBytes(0, b[:len(b)-1]))
	r.changes(opEnd(), func(e *impl.Engine) {
		e.Mode, e.Conns[0].Source.Open, e.Conns[1].Source.Open = impl.ModeDrained, false, false
	})
	r.idle(opRead(0), opRoute(), opShard(0), opSink(1))
}

// checkDrains: the engine is drained by the last of these ops, and not sooner.
func (r *script) checkDrains(ops ...impl.Op) {
	r.t.Helper()
	for i, op := range ops {
		if r.e.Mode != impl.ModeDrains {
			r.t.Fatalf("%v: the mode is %d ahead of the op %d of %v", opsText(r.ops), r.e.Mode, i, opsText(ops))
		}
		r.done(op)
	}
	if r.e.Mode != impl.ModeDrained {
		r.t.Fatalf("%v: the mode is %d, with %+v", opsText(r.ops), r.e.Mode, r.e)
	}
}

func TestWhenItIsDrained(t *testing.T) {
	late := []impl.Op{opOpen(), opFeed(0, mark(99), event(1, 5, 1)), opRead(0), opRoute(), opShard(0), opRead(0)}
	for _, c := range []struct {
		left  string
		ahead []impl.Op
		ops   []impl.Op
	}{
		{"a bye", []impl.Op{opOpen(), opFeed(0, bye())}, []impl.Op{opRead(0)}},
		{"a mark", []impl.Op{opOpen(), opOpen(), opFeed(1, mark(5), mark(6))}, []impl.Op{opRead(1), opTick(1), opRead(1)}},
		{"bad bytes", []impl.Op{opOpen(), opBytes(0, bent())}, []impl.Op{opRead(0)}},
		{"bad bytes behind a mark", []impl.Op{opOpen(), opBytes(0, append(bytesOf(mark(3)), bent()...))}, []impl.Op{opRead(0), opRead(0)}},
		{"a late event in In", late, []impl.Op{opRoute(), opShard(0)}},
		{"a mark alone in a queue", []impl.Op{opOpen(), opFeed(0, mark(99)), opRead(0), opRoute()}, []impl.Op{opShard(0)}},
		{"an event in a queue", []impl.Op{opOpen(), opFeed(0, event(1, 5, 1)), opRead(0), opRoute()}, []impl.Op{opShard(0), opShard(0), opSink(1)}},
		{"a sum that is held", []impl.Op{opOpen(), opFeed(0, event(1, 5, 1)), opRead(0), opRoute(), opShard(0)}, []impl.Op{opTick(1), opShard(0), opSink(1)}},
		{"a sum in Out", []impl.Op{opOpen(), opFeed(0, event(1, 5, 1), mark(50)), opRead(0), opRead(0), opRoute(), opRoute(), opShard(0), opShard(0), opShard(0)}, []impl.Op{opSink(1)}},
	} {
		t.Run(c.left, func(t *testing.T) {
			r := aScript(t, func(s *impl.Setup) { s.Shards = 1 })
			r.done(c.ahead...)
			r.done(opEnd())
			r.checkDrains(c.ops...)
		})
	}
}

// While it runs, no shard flushes, whatever else is empty.
func TestNothingFlushesWhileItRuns(t *testing.T) {
	r := aScript(t, func(s *impl.Setup) {})
	r.done(opOpen(), opFeed(0, event(aKey(0, 0), 5, 1)), opRead(0), opRoute(), opRoute(), opShard(0), opShard(1), opClose(0), opTick(1000))
	r.idle(opShard(0), opRead(0), opRoute(), opShard(1), opSink(1))
	r.done(opEnd())
	r.changes(opShard(0), func(e *impl.Engine) { e.Shards[0].Aggs, e.Out = nil, []impl.Agg{anAgg(0, aKey(0, 0), 1)} })
}

// toFlush is a script behind its end with a sum of each shard, and of shard 0 a second one.
func toFlush(t *testing.T, ahead ...impl.Op) *script {
	t.Helper()
	r := aScript(t, func(s *impl.Setup) {})
	r.done(opOpen(), opOpen(), opFeed(0, event(aKey(0, 0), 15, 1), event(aKey(0, 1), 5, 2), event(aKey(1, 0), 25, 3)))
	for _, shard := range []int{0, 0, 1} {
		r.done(opRead(0), opRoute(), opShard(shard))
	}
	r.done(ahead...)
	r.done(opEnd())
	return r
}

func TestWhatFlushes(t *testing.T) {
	first, second, third := anAgg(0, aKey(0, 1), 2), anAgg(1, aKey(0, 0), 1), anAgg(2, aKey(1, 0), 3)
	r := toFlush(t)
	r.changes(opShard(0), func(e *impl.Engine) { e.Shards[0].Aggs, e.Out = []impl.Agg{second}, []impl.Agg{first} })
	r.changes(opShard(1), func(e *impl.Engine) { e.Shards[1].Aggs, e.Out = nil, []impl.Agg{first, third} })
	// Out is full.
	r.idle(opShard(0), opShard(1))
	r.done(opSink(1))
	r.changes(opShard(0), func(e *impl.Engine) { e.Shards[0].Aggs, e.Out = nil, []impl.Agg{third, second} })
	r.idle(opShard(0), opShard(1))
	r.checkDrains(opSink(1), opSink(1))
	r.emits(first, third, second)
}

func TestWhatDoesNotFlush(t *testing.T) {
	late := event(aKey(1, 0), 26, 4)
	for _, c := range []struct {
		left  string
		ahead []impl.Op
		ops   []impl.Op
	}{
		{"an event", []impl.Op{opFeed(1, late)}, []impl.Op{opRead(1), opRoute()}},
		{"a mark", []impl.Op{opFeed(0, mark(5))}, []impl.Op{opRead(0)}},
		{"a bye", []impl.Op{opFeed(1, bye())}, []impl.Op{opRead(1)}},
		{"bad bytes", []impl.Op{opBytes(1, bent())}, []impl.Op{opRead(1)}},
		{"two frames", []impl.Op{opFeed(1, mark(1), mark(2))}, []impl.Op{opRead(1), opRead(1)}},
		{"In", []impl.Op{opFeed(1, late), opRead(1)}, []impl.Op{opRoute()}},
	} {
		t.Run(c.left, func(t *testing.T) {
			r := toFlush(t, c.ahead...)
			for _, op := range c.ops {
				r.idle(opShard(0), opShard(1))
				r.done(op)
			}
			// What stands in the queue of one shard does not hold the other.
			r.changes(opShard(0), func(e *impl.Engine) {
				e.Shards[0].Aggs, e.Out = e.Shards[0].Aggs[1:], []impl.Agg{anAgg(0, aKey(0, 1), 2)}
			})
		})
	}
}

// A shard whose own queue has something takes that first, and flushes when it has none.
func TestOwnQueueHoldsTheFlush(t *testing.T) {
	late := event(aKey(1, 0), 26, 4)
	r := toFlush(t, opFeed(1, late, late), opRead(1), opRead(1), opRoute(), opRoute())
	for i := range 2 {
		r.changes(opShard(1), func(e *impl.Engine) {
			e.Queues[1], e.Tally.Taken, e.Shards[1].Mark = e.Queues[1][1:], 4+i, 22
			e.Shards[1].Aggs[0] = impl.Agg{Win: 2, Key: aKey(1, 0), Count: 2 + i, Sum: 7 + 4*i, Min: 3, Max: 4}
		})
	}
	r.changes(opShard(1), func(e *impl.Engine) { e.Out, e.Shards[1].Aggs = e.Shards[1].Aggs, nil })
	r = toFlush(t, opFeed(1, mark(18)), opRead(1), opFeed(0, mark(18)), opRead(0), opRoute())
	r.changes(opShard(1), func(e *impl.Engine) { e.Queues[1], e.Shards[1].Mark = nil, 18 })
	r.changes(opShard(1), func(e *impl.Engine) { e.Out, e.Shards[1].Aggs = e.Shards[1].Aggs, nil })
	// Closed sums go out ahead of the queue, as ever.
	r.changes(opShard(0), func(e *impl.Engine) { e.Queues[0], e.Shards[0].Mark = nil, 18 })
	r.changes(opShard(0), func(e *impl.Engine) {
		e.Out, e.Shards[0].Aggs = append(e.Out, e.Shards[0].Aggs[0]), e.Shards[0].Aggs[1:]
	})
}

// The beginning of a frame holds no flush: it is never ended.
func TestTheBeginningOfAFrameHoldsNoFlush(t *testing.T) {
	b := bytesOf(event(1, 2, 3))
	r := toFlush(t, opBytes(0, b[:4]), opBytes(1, b[:len(b)-1]))
	r.done(opShard(0), opShard(1), opSink(1), opShard(0), opSink(1))
	r.checkDrains(opSink(1))
}

// A drained engine still goes on with the mark, but its mode stays.
func TestMarksGoOnBehindDrained(t *testing.T) {
	r := toFlush(t, opClose(1))
	r.done(opShard(1), opSink(1), opShard(0), opSink(1), opShard(0))
	r.checkDrains(opSink(1))
	r.changes(opRoute(), func(e *impl.Engine) {
		e.Queues[0], e.Queues[1], e.Sent = []impl.Msg{{Mark: 22}}, []impl.Msg{{Mark: 22}}, []int{22, 22}
	})
	r.changes(opShard(1), func(e *impl.Engine) { e.Queues[1], e.Shards[1].Mark = nil, 22 })
	r.changes(opTick(3), func(e *impl.Engine) { e.Now = 3 })
	r.idle(opRoute(), opShard(1), opSink(1), opRead(0))
}

// With two connections, one of which gives nothing, the mark goes on with the tick that makes it
// idle, and holds again as soon as it speaks; but it never falls.
func TestASilentConnHoldsTheMarkUntilItIsIdle(t *testing.T) {
	for _, after := range []int{1, 2, 5, 30} {
		r := aScript(t, func(s *impl.Setup) { s.IdleAfter, s.Late = after, 2 })
		r.done(opOpen(), opOpen())
		for now := 1; now <= after; now++ {
			r.done(opFeed(0, event(1, 10*now, 1)), opRead(0))
			if r.e.Mark != noMark {
				t.Fatalf("after %d: the mark is %d at %d, with a source that is silent", after, r.e.Mark, now-1)
			}
			r.done(opTick(1), opRoute(), opShard(0))
		}
		if want := 10*after - 3; after > 1 && (r.e.Mark != want || !r.e.Conns[1].Source.Idle) {
			t.Fatalf("after %d: the mark is %d, want %d: %+v", after, r.e.Mark, want, r.e)
		}
		r.done(opFeed(0, event(1, 1000, 1)), opRead(0))
		if want := 997; r.e.Mark != want {
			t.Fatalf("after %d: the mark is %d, want %d", after, r.e.Mark, want)
		}
		r.done(opFeed(1, event(1, 990, 1)), opRead(1), opFeed(0, event(1, 2000, 1)), opRead(0))
		if r.e.Mark != 997 || r.e.Conns[1].Source.Idle || r.e.Conns[1].Source.Mark != 987 {
			t.Fatalf("after %d: %+v", after, r.e)
		}
		r.done(opFeed(1, mark(1500)), opRead(1))
		if r.e.Mark != 1500 {
			t.Fatalf("after %d: %+v", after, r.e)
		}
	}
}

// Where all are idle, or none is open, the mark stays where it is.
func TestNobodyMovesTheMark(t *testing.T) {
	r := aScript(t, func(s *impl.Setup) {})
	r.done(opTick(3), opOpen(), opOpen(), opFeed(0, mark(70)), opRead(0), opFeed(1, mark(50)), opRead(1))
	r.changes(opTick(9), func(e *impl.Engine) { e.Now, e.Conns[0].Source.Idle, e.Conns[1].Source.Idle = 12, true, true })
	r.done(opClose(0), opClose(1), opOpen(), opTick(1))
	if r.e.Mark != 50 {
		t.Errorf("%+v", r.e)
	}
}

// A reason is one change that makes aSafeEngine another one.
type reason struct {
	name   string
	change func(e *impl.Engine)
}

// noEngines are for one reason each not safe.
func noEngines() []reason {
	list := []reason{
		{"mode -1", func(e *impl.Engine) { e.Mode = -1 }},
		{"mode 3", func(e *impl.Engine) { e.Mode = 3 }},
		{"no setup", func(e *impl.Engine) { e.Setup = impl.Setup{} }},
		{"setup", func(e *impl.Engine) { e.Setup.Size = 1001 }},
		{"a queue more", func(e *impl.Engine) { e.Queues = append(e.Queues, nil) }},
		{"a queue less", func(e *impl.Engine) { e.Queues = e.Queues[:1] }},
		{"no queues", func(e *impl.Engine) { e.Queues = nil }},
		{"a shard more", func(e *impl.Engine) { e.Shards = append(e.Shards, impl.NewShard()) }},
		{"a shard less", func(e *impl.Engine) { e.Shards = e.Shards[:1] }},
		{"no shards", func(e *impl.Engine) { e.Shards = nil }},
		{"a mark more", func(e *impl.Engine) { e.Sent = append(e.Sent, -1) }},
		{"a mark less", func(e *impl.Engine) { e.Sent = e.Sent[:1] }},
		{"no marks", func(e *impl.Engine) { e.Sent = nil }},
		{"one of all", func(e *impl.Engine) { e.Queues, e.Shards, e.Sent = e.Queues[:1], e.Shards[:1], e.Sent[:1] }},
		{"a long In", func(e *impl.Engine) { e.In = append(e.In, e.In[0]) }},
		{"a long queue", func(e *impl.Engine) { e.Queues[1] = append(e.Queues[1], e.Queues[1][0]) }},
		{"a long Out", func(e *impl.Engine) { e.Out = append(e.Out, anAgg(0, 3, 1)) }},
		{"many aggs", func(e *impl.Engine) { e.Shards[0].Aggs = append(e.Shards[0].Aggs, anAgg(900, 0, 1)) }},
		{"aggs that fall", func(e *impl.Engine) { slices.Reverse(e.Shards[0].Aggs) }},
		{"shard 0 above Sent", func(e *impl.Engine) { e.Shards[0].Mark = e.Sent[0] + 1 }},
		{"shard 1 above Sent", func(e *impl.Engine) { e.Shards[1].Mark = e.Sent[1] + 1 }},
		{"Sent 0 above Mark", func(e *impl.Engine) { e.Sent[0] = e.Mark + 1 }},
		{"Sent 1 above Mark", func(e *impl.Engine) { e.Sent[1] = e.Mark + 1 }},
		{"Mark", func(e *impl.Engine) { e.Mark = 16 }},
		{"Sent", func(e *impl.Engine) { e.Sent[1] = math.MinInt }},
		{"bytes with Bad", func(e *impl.Engine) { e.Conns[1].Decoder.Bad = true }},
		{"many bytes", func(e *impl.Engine) { e.Conns[0].Decoder.Buf = make([]byte, impl.MaxBuf+1) }},
	}
	for i, f := range append(noFrames(), mark(5), bye()) {
		list = append(list, reason{fmt.Sprint("frame in In ", i), func(e *impl.Engine) { e.In[1].Frame = f }})
		if f != (impl.Frame{}) {
			list = append(list, reason{fmt.Sprint("frame in a queue ", i), func(e *impl.Engine) { e.Queues[1][0].Frame = f }})
		}
	}
	for _, x := range noMarks() {
		list = append(list, reason{fmt.Sprint("mark in In ", x), func(e *impl.Engine) { e.In[1].Mark = x }},
			reason{fmt.Sprint("mark in a queue ", x), func(e *impl.Engine) { e.Queues[0][0].Mark = x }},
			reason{fmt.Sprint("mark alone in a queue ", x), func(e *impl.Engine) { e.Queues[1][1].Mark = x }})
	}
	for i, s := range noShards() {
		list = append(list, reason{fmt.Sprint("shard ", i), func(e *impl.Engine) {
			e.Setup.Room, e.Mark, e.Sent[1] = impl.MaxAggs, math.MaxInt, math.MaxInt
			e.Shards[1] = s
		}})
	}
	for i, s := range noSources() {
		list = append(list, reason{fmt.Sprint("source ", i), func(e *impl.Engine) { e.Conns[2].Source = s }})
	}
	return list
}

// aSafeEngine has as much of everything as it may have.
func aSafeEngine() impl.Engine {
	s := impl.Setup{Sources: 3, Shards: 2, Size: 10, Late: 2, IdleAfter: 5, CapIn: 2, CapShard: 3, CapOut: 2, Room: 4}
	first, last := impl.Msg{Frame: event(1, 2, 3), Mark: 19}, impl.Msg{Frame: event(impl.MaxKey, impl.MaxTime, -impl.MaxValue), Mark: impl.MaxTime}
	return impl.Engine{
		Setup: s, Now: 77, Mode: impl.ModeRuns,
		Conns: []impl.Conn{
			{Decoder: impl.Decoder{Buf: make([]byte, impl.MaxBuf)}, Source: aSource(5)},
			{Decoder: impl.Decoder{Buf: bytesOf(event(1, 2, 3))}, Source: anIdleSource(impl.MaxTime)},
			{Decoder: impl.Decoder{Bad: true}, Source: aClosedSource(noMark)},
		},
		In:     []impl.Msg{first, last},
		Queues: [][]impl.Msg{{last}, {first, {Mark: noMark}, {Mark: impl.MaxTime}}},
		Shards: []impl.Shard{aShard(15, anAgg(2, 1, 1), anAgg(3, 0, 1), anAgg(3, 9, 1), anAgg(7, 0, 5)), aShard(noMark)},
		Out:    []impl.Agg{anAgg(0, 1, 2), anAgg(0, 2, 2)},
		Mark:   17, Sent: []int{17, 12},
		Tally: impl.Tally{Read: 12, Taken: 3, Late: 4, Over: 5, Bent: 6, Refused: 7},
	}
}

func TestEngineSafe(t *testing.T) {
	for _, change := range []func(e *impl.Engine){
		func(*impl.Engine) {}, func(e *impl.Engine) { e.Mode = impl.ModeDrains }, func(e *impl.Engine) { e.Mode = impl.ModeDrained },
		func(e *impl.Engine) { e.Mark = 18 }, func(e *impl.Engine) { e.Shards[0].Mark = 17 }, func(e *impl.Engine) { e.Sent[1] = 17 },
		func(e *impl.Engine) { e.Sent[1] = noMark }, func(e *impl.Engine) { e.Conns, e.In, e.Out = nil, nil, nil },
		func(e *impl.Engine) { e.Queues = make([][]impl.Msg, 2) }, func(e *impl.Engine) { e.Conns[1].Decoder.Buf = bent() },
		// Nothing is said of these.
		func(e *impl.Engine) { e.Now, e.Tally.Read, e.Tally.Refused = -5, -1, math.MaxInt },
		func(e *impl.Engine) { e.Setup.Room, e.Mark, e.Sent[1] = impl.MaxAggs, math.MaxInt, math.MaxInt },
		func(e *impl.Engine) { e.Conns = slices.Repeat(e.Conns, 5) },
	} {
		e := aSafeEngine()
		change(&e)
		if !impl.EngineSafe(e) {
			t.Errorf("EngineSafe(%+v) is false", e)
		}
	}
	if impl.EngineSafe(impl.Engine{}) {
		t.Error("the zero engine is safe")
	}
	for _, c := range noEngines() {
		e := aSafeEngine()
		c.change(&e)
		if impl.EngineSafe(e) {
			t.Errorf("%s: EngineSafe(%+v) is true", c.name, e)
		}
	}
}

func TestEngineText(t *testing.T) {
	e := aSafeEngine()
	want := " mark 17 in 2 queued 4 held 4 out 2 read 12 taken 3 late 4 over 5"
	for mode, word := range []string{"runs", "drains", "drained"} {
		e.Mode = mode
		if got := impl.EngineText(e); got != word+want {
			t.Errorf("EngineText = %q, want %q", got, word+want)
		}
	}
	for _, mode := range []int{-1, 3, 4, 1 << 32, math.MaxInt, math.MinInt} {
		e.Mode = mode
		if got := impl.EngineText(e); got != "" {
			t.Errorf("EngineText with the mode %d = %q", mode, got)
		}
	}
	if got, want := impl.EngineText(impl.Engine{Mark: -1}), "runs mark -1 in 0 queued 0 held 0 out 0 read 0 taken 0 late 0 over 0"; got != want {
		t.Errorf("EngineText = %q, want %q", got, want)
	}
	// It is told of engines that are not safe, too.
	odd := impl.Engine{Mode: 1, Mark: math.MinInt, In: make([]impl.Msg, 1000), Queues: [][]impl.Msg{make([]impl.Msg, 5), nil, make([]impl.Msg, 6)},
		Shards: []impl.Shard{fullShard(50), fullShard(1)}, Tally: impl.Tally{Read: -1, Late: math.MaxInt}}
	if got, want := impl.EngineText(odd), "drains mark -9223372036854775808 in 1000 queued 11 held 51 out 0 read -1 taken 0 late 9223372036854775807 over 0"; got != want {
		t.Errorf("EngineText = %q, want %q", got, want)
	}
}

func TestInFlight(t *testing.T) {
	f := impl.Msg{Frame: event(1, 2, 3), Mark: 5}
	alone := impl.Msg{Mark: 5}
	for _, c := range []struct {
		e    impl.Engine
		want int
	}{
		{impl.Engine{}, 0}, {aSafeEngine(), 4}, {impl.Engine{In: []impl.Msg{f}}, 1}, {impl.Engine{In: []impl.Msg{alone}}, 0},
		{impl.Engine{Queues: [][]impl.Msg{{alone, alone}, {}, {alone}}}, 0},
		{impl.Engine{In: []impl.Msg{{Frame: mark(5)}, f}, Queues: [][]impl.Msg{{{Frame: bye()}}}}, 1},
		{impl.Engine{In: []impl.Msg{f, f}, Queues: [][]impl.Msg{{alone, f}, nil, {f, alone, f}}}, 5},
	} {
		if got := impl.InFlight(c.e); got != c.want {
			t.Errorf("InFlight(%+v) = %d, want %d", c.e, got, c.want)
		}
	}
}

func TestReadable(t *testing.T) {
	b := bytesOf(event(1, 2, 3), bye())
	open := impl.Source{Open: true}
	e := impl.Engine{}
	for _, c := range []struct {
		d    impl.Decoder
		want bool
	}{
		{impl.Decoder{}, false}, {impl.Decoder{Buf: b}, true}, {impl.Decoder{Buf: b[:5]}, false}, {impl.Decoder{Buf: bent()}, true},
		{impl.Decoder{Buf: bytesOf(mark(3))}, true}, {impl.Decoder{Buf: bytesOf(bye())}, true}, {impl.Decoder{Bad: true}, false},
		// These are no decoders.
		{impl.Decoder{Buf: b, Bad: true}, false}, {impl.Decoder{Buf: slices.Repeat(b, 40)}, false}, {impl.Decoder{Buf: make([]byte, impl.MaxBuf+1)}, false},
		{impl.Decoder{Buf: make([]byte, impl.MaxBuf)}, true},
	} {
		e.Conns = append(e.Conns, impl.Conn{Decoder: c.d}, impl.Conn{Decoder: c.d, Source: open})
		for _, place := range []int{len(e.Conns) - 2, len(e.Conns) - 1} {
			if got := impl.Readable(e, place); got != c.want {
				t.Errorf("Readable with %+v is %v", c.d, got)
			}
		}
	}
	for _, place := range noPlaces(len(e.Conns)) {
		if impl.Readable(e, place) || impl.Readable(impl.Engine{}, place) {
			t.Errorf("Readable at %d", place)
		}
	}
	if impl.Readable(impl.Engine{}, 0) {
		t.Error("Readable without a connection")
	}
}

// aRound are the ops of a round in which every stage has its turn.
func aRound(conns int, shards int) []impl.Op {
	ops := []impl.Op{opTick(1)}
	for i := range conns {
		ops = append(ops, opRead(i))
	}
	ops = append(ops, opRoute())
	for i := range shards {
		ops = append(ops, opShard(i))
	}
	return append(ops, opSink(1))
}

// anOp is one of any kind, mostly one that may be done. What is fed comes about in the order of time, a few bytes turned.
func anOp(next func(below int) int, at int) impl.Op {
	conn := next(5)
	switch next(16) {
	case 0:
		return opTick(next(6))
	case 1:
		return opOpen()
	case 2, 3, 4:
		list := []impl.Frame{event(next(9), at+next(40), next(200)-100), event(next(9), at+next(25), next(200)-100)}
		switch next(10) {
		case 0, 1:
			list = append(list, mark(at))
		case 2:
			list = append(list, bye())
		}
		b := bytesOf(list[next(2):]...)
		if next(20) == 0 {
			b[next(len(b))] ^= 4
		}
		return opBytes(conn, b)
	case 5, 6, 7, 8:
		return opRead(conn)
	case 9, 10, 11:
		return opRoute()
	case 12, 13:
		return opShard(next(4))
	case 14:
		return opSink(1)
	}
	switch next(8) {
	case 0:
		return opClose(conn)
	case 1:
		return opSink(0)
	case 2:
		return impl.Op{Kind: next(14) - 2, A: next(30) - 10, B: next(3), Data: []byte{1, 2}}
	}
	return opSink(1)
}

func aLittleSetup(next func(below int) int) impl.Setup {
	return impl.Setup{
		Sources: 1 + next(6), Shards: 1 + next(4), Size: 1 + next(30), Late: next(20), IdleAfter: next(8),
		CapIn: 1 + next(4), CapShard: 1 + next(3), CapOut: 1 + next(3), Room: 1 + next(8),
	}
}

// aMess is a script of as many ops as there may be, with the end where it is told.
func aMess(seed int, end int) (impl.Setup, []impl.Op) {
	next := stir(seed)
	s := aLittleSetup(next)
	ops := []impl.Op{opOpen(), opOpen()}
	for len(ops) < impl.MaxOps {
		if len(ops) == end {
			ops = append(ops, opEnd())
		} else {
			ops = append(ops, anOp(next, len(ops)))
		}
	}
	return s, ops
}

// Behind every op of every script the engine is safe, nothing is lost and nothing comes twice or too soon (see step).
func TestMesses(t *testing.T) {
	var sum impl.Tally
	codes, modes, marks := [3]int{}, [3]int{}, 0
	for seed := range 60 {
		end := impl.MaxOps * (1 + seed%3) / 3
		s, ops := aMess(seed, end)
		r := aScript(t, func(to *impl.Setup) { *to = s })
		for _, op := range ops {
			codes[r.step(op)]++
		}
		modes[r.e.Mode]++
		marks += r.e.Mark
		y := r.e.Tally
		sum = impl.Tally{Read: sum.Read + y.Read, Taken: sum.Taken + y.Taken, Late: sum.Late + y.Late, Over: sum.Over + y.Over,
			Bent: sum.Bent + y.Bent, Refused: sum.Refused + y.Refused}
	}
	// The scripts are worth something only when all of it came about.
	if slices.Min(codes[:]) < 100 || slices.Min(modes[:]) < 1 || min(sum.Taken, sum.Late, sum.Over, sum.Bent, sum.Refused) < 5 || marks < 500 {
		t.Errorf("codes %v, modes %v, marks %d, %+v", codes, modes, marks, sum)
	}
}

// foldPlainly is what comes of events of which none is late and none over.
func foldPlainly(list []impl.Frame, size int) map[[2]int]impl.Agg {
	sums := map[[2]int]impl.Agg{}
	for _, f := range list {
		at := [2]int{f.Time / size, f.Key}
		a, there := sums[at]
		if !there {
			a = impl.Agg{Win: at[0], Key: at[1], Min: f.Value, Max: f.Value}
		}
		a.Count, a.Sum, a.Min, a.Max = a.Count+1, a.Sum+f.Value, min(a.Min, f.Value), max(a.Max, f.Value)
		sums[at] = a
	}
	return sums
}

// checkFold: what was emitted is the fold of the events, and of each shard it comes by window, then key.
func (r *script) checkFold(list []impl.Frame) {
	r.t.Helper()
	sums := foldPlainly(list, r.setup.Size)
	shards := make([][]impl.Agg, r.setup.Shards)
	for _, a := range r.out {
		if sums[[2]int{a.Win, a.Key}] != a {
			r.t.Fatalf("%v: %v is emitted, want %v", opsText(r.ops), a, sums[[2]int{a.Win, a.Key}])
		}
		shard := impl.ShardOf(a.Key, r.setup.Shards)
		shards[shard] = append(shards[shard], a)
	}
	if len(r.out) != len(sums) || r.e.Tally != (impl.Tally{Read: len(list), Taken: len(list)}) {
		r.t.Fatalf("%v: emitted %v, want %v: %+v", opsText(r.ops), r.out, sums, r.e)
	}
	for _, out := range shards {
		checkRising(r.t, out)
	}
}

// wholeRun feeds events that come in order from each of two connections, a few in each round, and
// then goes on until it is drained.
func wholeRun(t *testing.T, s impl.Setup, seed int) *script {
	t.Helper()
	r := aScript(t, func(to *impl.Setup) { *to = s })
	r.done(opOpen(), opOpen())
	next := stir(seed)
	var all []impl.Frame
	times := [2]int{}
	for range 10 {
		conn := next(2)
		times[conn] += next(30)
		f := event(next(7), times[conn], next(100)-50)
		all = append(all, f)
		r.done(opFeed(conn, f))
		for _, op := range aRound(2, s.Shards) {
			r.step(op)
		}
	}
	r.done(opEnd())
	for r.e.Mode != impl.ModeDrained && len(r.ops)+10 < impl.MaxOps {
		for _, op := range aRound(2, s.Shards) {
			r.step(op)
		}
	}
	if r.e.Mode != impl.ModeDrained || len(r.e.Out)+impl.InFlight(r.e) > 0 {
		t.Fatalf("%v: it is not drained: %+v", opsText(r.ops), r.e)
	}
	r.checkFold(all)
	return r
}

func TestWholeRuns(t *testing.T) {
	for seed := range 20 {
		for _, s := range []impl.Setup{
			impl.DefaultSetup(),
			// Queues of 1.
			{Sources: 2, Shards: 1, Size: 10, CapIn: 1, CapShard: 1, CapOut: 1, Room: 40},
			{Sources: 2, Shards: 2, Size: 25, Late: 3, CapIn: 1, CapShard: 1, CapOut: 1, Room: 40},
			{Sources: 6, Shards: 4, Size: 1, Late: 1000, CapIn: 1, CapShard: 1, CapOut: 1, Room: 40},
			{Sources: 3, Shards: 3, Size: 1000, CapIn: 20, CapShard: 20, CapOut: 20, Room: 40},
		} {
			// No source is idle, so that no event is late.
			s.IdleAfter = 0
			wholeRun(t, s, seed)
		}
	}
}

// With queues of 1 each stage waits for the next one.
func TestQueuesOfOne(t *testing.T) {
	r := aScript(t, func(s *impl.Setup) {
		s.Shards, s.CapIn, s.CapShard, s.CapOut, s.Room, s.Late, s.Size = 1, 1, 1, 1, 1, 0, 10
	})
	r.done(opOpen(), opFeed(0, event(1, 5, 1), event(1, 15, 2), event(1, 25, 3), event(1, 35, 4)), opRead(0))
	r.idle(opRead(0))
	r.done(opRoute(), opRead(0))
	r.idle(opRead(0), opRoute())
	r.done(opShard(0), opRoute(), opRead(0))
	r.idle(opRead(0), opRoute())
	// There is no room for the second window while the first one is held, but for the third one when it is out.
	r.done(opShard(0), opRoute(), opShard(0), opShard(0))
	if y := r.e.Tally; y != (impl.Tally{Read: 3, Taken: 2, Over: 1}) || len(r.e.Out) != 1 {
		t.Fatalf("%+v", r.e)
	}
	// Out is full: the fourth one comes ahead of the third one's end.
	r.done(opRead(0), opRoute(), opShard(0))
	r.done(opFeed(0, mark(99)), opRead(0), opRoute(), opShard(0))
	r.idle(opShard(0), opSink(0))
	r.done(opSink(1), opShard(0))
	r.idle(opShard(0))
	r.done(opSink(1))
	if y := r.e.Tally; y != (impl.Tally{Read: 4, Taken: 2, Over: 2}) {
		t.Errorf("%+v", r.e)
	}
	r.emits(anAgg(0, 1, 1), anAgg(2, 1, 3))
}

// checkApart fills each list up to its capacity and looks whether another one is changed.
func checkApart[T comparable](t *testing.T, what string, of func(i int) T, lists ...[]T) {
	t.Helper()
	for i, list := range lists {
		for j := range list[:cap(list)] {
			list[:cap(list)][j] = of(i)
		}
	}
	for i, list := range lists {
		for _, x := range list[:cap(list)] {
			if x != of(i) {
				t.Errorf("%s: list %d shares memory with another", what, i)
				return
			}
		}
	}
}

func TestEnginesAreNewMemory(t *testing.T) {
	b := append(make([]byte, 0, 50), bytesOf(event(1, 2, 3), event(2, 30, 4))...)
	was := slices.Clone(b[:cap(b)])
	ops := []impl.Op{opOpen(), opOpen(), opOpen(), opBytes(0, b), opBytes(1, b), opBytes(2, b), opRead(0), opRoute(), opRead(0), opRoute(),
		opShard(0), opShard(1), opRead(1), opRoute(), opBytes(1, b), opFeed(2, mark(99)), opClose(2), opRead(1), opRoute(), opRead(1)}
	given := slices.Clone(ops)
	e, out, codes, ok := impl.PlayEngine(impl.DefaultSetup(), ops)
	if !ok || !slices.Equal(b[:cap(b)], was) || opsText(ops) != opsText(given) || len(e.In) == 0 || len(e.Queues[0]) == 0 || len(e.Conns[2].Decoder.Buf) == 0 {
		t.Fatalf("%+v, %v, %v: %v", e, codes, ok, opsText(ops))
	}
	checkApart(t, "bytes", func(i int) byte { return byte(7 + i) }, b, e.Conns[0].Decoder.Buf, e.Conns[1].Decoder.Buf, e.Conns[2].Decoder.Buf)
	checkApart(t, "messages", func(i int) impl.Msg { return impl.Msg{Mark: 7 + i} }, append([][]impl.Msg{e.In}, e.Queues...)...)
	checkApart(t, "aggs", func(i int) impl.Agg { return impl.Agg{Win: 7 + i} }, e.Out, out, e.Shards[0].Aggs, e.Shards[1].Aggs)
	checkApart(t, "numbers", func(i int) int { return 7 + i }, e.Sent, codes)
	n, _ := impl.NewEngine(impl.DefaultSetup())
	checkApart(t, "new messages", func(i int) impl.Msg { return impl.Msg{Mark: 7 + i} }, append([][]impl.Msg{n.In}, n.Queues...)...)
}

// What is asked of an engine leaves it as it was.
func TestAskingLeavesTheEngine(t *testing.T) {
	e := aSafeEngine()
	e.Queues = append(make([][]impl.Msg, 0, 5), e.Queues...)
	e.In = append(make([]impl.Msg, 0, 5), e.In...)
	for place := range e.Conns {
		impl.Readable(e, place)
	}
	if !impl.EngineSafe(e) || impl.InFlight(e) != 4 || impl.EngineText(e) == "" || !sameEngine(e, aSafeEngine()) || e.Queues[:5][2] != nil || e.In[:5][2] != (impl.Msg{}) {
		t.Errorf("%+v", e)
	}
}
