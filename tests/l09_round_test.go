package tests

import (
	"fmt"
	"math"
	"slices"
	"testing"

	"loop.example/g00728/impl"
)

const mostRounds = 500

// noCounts are numbers of rounds that can't be.
func noCounts() []int {
	return []int{-1, -2, -mostRounds, mostRounds + 1, mostRounds + 2, 1 << 32, -1 << 32, math.MaxInt, math.MinInt}
}

func withEnd(ops []impl.Op) []impl.Op { return append(slices.Clone(ops), opEnd()) }

// sameOps takes no data and empty data as the same.
func sameOps(a []impl.Op, b []impl.Op) bool { return fmt.Sprint(a) == fmt.Sprint(b) }

func checkRoundOps(t *testing.T, e impl.Engine, want []impl.Op) {
	t.Helper()
	if got := impl.RoundOps(e); !sameOps(got, want) {
		t.Errorf("RoundOps(%+v) = %v, want %v", e, got, want)
	}
}

func TestRoundOps(t *testing.T) {
	for shards := 1; shards <= 4; shards++ {
		r := aScript(t, func(s *impl.Setup) { s.Shards, s.Sources = shards, 6 })
		// No Conns.
		checkRoundOps(t, r.e, aRound(0, shards))
		for conns := 1; conns <= impl.MaxConns; conns++ {
			if conns > 6 {
				// Those that are closed are read, too.
				r.done(opClose(conns - 7))
			}
			r.done(opOpen())
			checkRoundOps(t, r.e, aRound(conns, shards))
		}
		r.done(opTick(1000), opBytes(impl.MaxConns-1, bent()), opRead(impl.MaxConns-1))
		checkRoundOps(t, r.e, aRound(impl.MaxConns, shards))
		r.done(opEnd())
		checkRoundOps(t, r.e, aRound(impl.MaxConns, shards))
	}
	for mode := range 3 {
		e := aSafeEngine()
		e.Mode = mode
		checkRoundOps(t, e, aRound(3, 2))
		e.Conns = slices.Repeat(e.Conns, 5)
		checkRoundOps(t, e, aRound(15, 2))
	}
	want := []impl.Op{{Kind: 0, A: 1}, {Kind: 4}, {Kind: 4, A: 1}, {Kind: 4, A: 2}, {Kind: 5}, {Kind: 6}, {Kind: 6, A: 1}, {Kind: 7, A: 1}}
	checkRoundOps(t, aSafeEngine(), want)
}

// aRestingEngine has one of each that may stay where it is.
func aRestingEngine() impl.Engine {
	e := aSafeEngine()
	e.Setup.Shards = 3
	e.Conns = []impl.Conn{
		{Source: aSource(5)}, {Decoder: impl.Decoder{Buf: bytesOf(event(1, 2, 3))[:eventSize-1]}, Source: anIdleSource(9)},
		{Decoder: impl.Decoder{Bad: true}, Source: aClosedSource(noMark)},
	}
	e.In, e.Out, e.Queues, e.Sent = nil, nil, make([][]impl.Msg, 3), []int{17, 17, 17}
	// The end of the window 1 is 19, the end of the window 2 is 29.
	e.Shards = []impl.Shard{aShard(17), aShard(17, anAgg(2, 1, 5)), aShard(17, anAgg(1, 1, 5), anAgg(1, 2, 5))}
	return e
}

// noRestingEngines would be at rest, but for one reason each they are not safe.
func noRestingEngines() []reason {
	list := []reason{
		{"zero", func(e *impl.Engine) { *e = impl.Engine{} }},
		{"mode -1", func(e *impl.Engine) { e.Mode = -1 }},
		{"mode 3", func(e *impl.Engine) { e.Mode = 3 }},
		{"setup", func(e *impl.Engine) { e.Setup.Late = -1 }},
		{"room of the setup", func(e *impl.Engine) { e.Setup.CapOut = 0 }},
		{"a queue more", func(e *impl.Engine) { e.Queues = append(e.Queues, nil) }},
		{"a queue less", func(e *impl.Engine) { e.Queues = e.Queues[1:] }},
		{"a shard more", func(e *impl.Engine) { e.Shards = append(e.Shards, impl.NewShard()) }},
		{"a shard less", func(e *impl.Engine) { e.Shards = e.Shards[1:] }},
		{"a mark more", func(e *impl.Engine) { e.Sent = append(e.Sent, 17) }},
		{"a mark less", func(e *impl.Engine) { e.Sent = e.Sent[1:] }},
		{"one of all", func(e *impl.Engine) { e.Queues, e.Shards, e.Sent = e.Queues[1:], e.Shards[1:], e.Sent[1:] }},
		{"many aggs", func(e *impl.Engine) { e.Setup.Room = 1 }},
		{"aggs that fall", func(e *impl.Engine) { slices.Reverse(e.Shards[2].Aggs) }},
		{"above Sent", func(e *impl.Engine) { e.Shards[0].Mark = 18 }},
		{"Late", func(e *impl.Engine) { e.Shards[0].Late = -1 }},
		{"bytes with Bad", func(e *impl.Engine) { e.Conns[1].Decoder.Bad = true }},
		{"many bytes", func(e *impl.Engine) { e.Conns[0].Decoder.Buf = make([]byte, impl.MaxBuf+1) }},
	}
	for i, s := range noSources() {
		list = append(list, reason{fmt.Sprint("source ", i), func(e *impl.Engine) { e.Conns[2].Source = s }})
	}
	return list
}

// noneIsSafe plays each engine that is not safe, for one reason each.
func noneIsSafe(do func(name string, e impl.Engine)) {
	do("the zero engine", impl.Engine{})
	for _, c := range noEngines() {
		e := aSafeEngine()
		c.change(&e)
		do(c.name, e)
	}
	for _, c := range noRestingEngines() {
		e := aRestingEngine()
		c.change(&e)
		do("resting: "+c.name, e)
	}
}

func TestNoRoundOfNoEngines(t *testing.T) {
	noneIsSafe(func(name string, e impl.Engine) {
		if got := impl.RoundOps(e); len(got) != 0 {
			t.Errorf("%s: RoundOps(%+v) = %v", name, e, got)
		}
		if got := impl.DrainBound(e); got != -1 {
			t.Errorf("%s: DrainBound(%+v) = %d", name, e, got)
		}
		if impl.StuckAt(e) || impl.AtRest(e) {
			t.Errorf("%s: %+v is stuck: %t, at rest: %t", name, e, impl.StuckAt(e), impl.AtRest(e))
		}
	})
	// They are worth something only when the reason alone counts.
	if e := aRestingEngine(); !impl.EngineSafe(e) || !impl.StuckAt(e) || !impl.AtRest(e) {
		t.Errorf("%+v is safe: %t, stuck: %t, at rest: %t", e, impl.EngineSafe(e), impl.StuckAt(e), impl.AtRest(e))
	}
}

func TestFramesLeft(t *testing.T) {
	one, three := bytesOf(event(1, 2, 3)), bytesOf(event(1, 2, 3), mark(4), bye())
	full, events := filled()
	all, sum := impl.Engine{}, 0
	for _, c := range []struct {
		d    impl.Decoder
		want int
	}{
		{impl.Decoder{}, 0}, {impl.Decoder{Buf: one}, 1}, {impl.Decoder{Buf: bytesOf(mark(3))}, 1}, {impl.Decoder{Buf: bytesOf(bye())}, 1},
		{impl.Decoder{Buf: three}, 3}, {impl.Decoder{Buf: full}, len(events) + 4}, {impl.Decoder{Buf: bytesOf(slices.Repeat([]impl.Frame{bye()}, 66)...)}, 66},
		// What is not whole yet is none.
		{impl.Decoder{Buf: one[:1]}, 0}, {impl.Decoder{Buf: one[:eventSize-1]}, 0}, {impl.Decoder{Buf: three[:len(three)-1]}, 2}, {impl.Decoder{Buf: three[:eventSize+1]}, 1},
		// A bad one counts, and nothing behind it.
		{impl.Decoder{Buf: bent()}, 1}, {impl.Decoder{Buf: append(slices.Clone(one), bent()...)}, 2}, {impl.Decoder{Buf: append(slices.Clone(three), bent()...)}, 4},
		{impl.Decoder{Buf: slices.Concat(three, bent(), three)}, 4}, {impl.Decoder{Buf: append(bent(), one...)}, 1}, {impl.Decoder{Buf: make([]byte, impl.MaxBuf)}, 1},
		{impl.Decoder{Bad: true}, 0},
		// These are no decoders.
		{impl.Decoder{Buf: one, Bad: true}, 0}, {impl.Decoder{Buf: append(slices.Clone(full), 14)}, 0}, {impl.Decoder{Buf: slices.Repeat(one, 40)}, 0},
		{impl.Decoder{Buf: make([]byte, impl.MaxBuf+1)}, 0},
	} {
		for _, s := range []impl.Source{{}, aSource(3), anIdleSource(3), aClosedSource(3), noSources()[0]} {
			conn := impl.Conn{Decoder: c.d, Source: s}
			if got := impl.FramesLeft(impl.Engine{Conns: []impl.Conn{conn}}); got != c.want {
				t.Errorf("FramesLeft with %+v is %d, want %d", conn, got, c.want)
			}
			all.Conns, sum = append(all.Conns, conn), sum+c.want
		}
	}
	if got := impl.FramesLeft(all); got != sum {
		t.Errorf("FramesLeft of all is %d, want %d", got, sum)
	}
	// What else stands there does not count.
	if got := impl.FramesLeft(aSafeEngine()); got != 2 {
		t.Errorf("FramesLeft is %d", got)
	}
	if got := impl.FramesLeft(impl.Engine{}); got != 0 {
		t.Errorf("FramesLeft of the zero engine is %d", got)
	}
}

func TestDrainBound(t *testing.T) {
	for _, c := range []struct {
		name   string
		change func(e *impl.Engine)
		want   int
	}{
		{"all", func(*impl.Engine) {}, 3*(2+2+4) + 2*(4+2) + 4*2 + 10},
		{"a mode", func(e *impl.Engine) { e.Mode = impl.ModeDrains }, 54},
		{"another mode", func(e *impl.Engine) { e.Mode = impl.ModeDrained }, 54},
		{"no frames", func(e *impl.Engine) { e.Conns = nil }, 54 - 3*2},
		{"a frame more", func(e *impl.Engine) { e.Conns[2].Decoder = impl.Decoder{Buf: bytesOf(mark(3))} }, 54 + 3},
		{"two frames more", func(e *impl.Engine) { e.Conns[1].Decoder.Buf = append(bytesOf(bye(), bye()), bent()...) }, 54 + 6},
		{"In less one", func(e *impl.Engine) { e.In = e.In[1:] }, 54 - 3},
		{"no In", func(e *impl.Engine) { e.In = nil }, 54 - 3*2},
		{"no queue 0", func(e *impl.Engine) { e.Queues[0] = nil }, 54 - 3},
		{"no marks alone", func(e *impl.Engine) { e.Queues[1] = e.Queues[1][:1] }, 54 - 3*2},
		{"no sums", func(e *impl.Engine) { e.Shards[0].Aggs = nil }, 54 - 2*4},
		{"a sum more", func(e *impl.Engine) { e.Shards[1].Aggs = []impl.Agg{anAgg(3, 3, 3)} }, 54 + 2},
		{"no Out", func(e *impl.Engine) { e.Out = nil }, 54 - 2*2},
		{"three shards", func(e *impl.Engine) { *e = aRestingEngine() }, 2*3 + 4*3 + 10},
	} {
		e := aSafeEngine()
		c.change(&e)
		if got := impl.DrainBound(e); got != c.want {
			t.Errorf("%s: DrainBound(%+v) = %d, want %d", c.name, e, got, c.want)
		}
	}
	for shards := 1; shards <= 4; shards++ {
		s := impl.DefaultSetup()
		s.Shards = shards
		if got := impl.DrainBound(plainEngine(s)); got != 4*shards+10 {
			t.Errorf("DrainBound of a new engine of %d shards = %d", shards, got)
		}
	}
}

// For one reason each something goes on: no such engine is at rest, and none is stuck.
func TestWhatIsNotAtRest(t *testing.T) {
	msg := impl.Msg{Frame: event(1, 2, 3), Mark: 17}
	list := []reason{
		{"an event", func(e *impl.Engine) { e.Conns[0].Decoder.Buf = bytesOf(event(1, 2, 3)) }},
		{"a mark", func(e *impl.Engine) { e.Conns[1].Decoder.Buf = bytesOf(mark(3)) }},
		{"a bye of one that is closed", func(e *impl.Engine) { e.Conns[2].Decoder = impl.Decoder{Buf: bytesOf(bye())} }},
		{"bad bytes", func(e *impl.Engine) { e.Conns[0].Decoder.Buf = bent() }},
		{"an In", func(e *impl.Engine) { e.In = []impl.Msg{msg} }},
		{"a frame and a full In", func(e *impl.Engine) { e.Conns[0].Decoder.Buf, e.In = bytesOf(mark(3)), []impl.Msg{msg, msg} }},
		{"an Out", func(e *impl.Engine) { e.Out = []impl.Agg{anAgg(0, 1, 5)} }},
		{"an Out of anything", func(e *impl.Engine) { e.Out = make([]impl.Agg, 1) }},
	}
	for place := range 3 {
		list = append(list,
			reason{fmt.Sprint("an event in queue ", place), func(e *impl.Engine) { e.Queues[place] = []impl.Msg{msg} }},
			reason{fmt.Sprint("a mark alone in queue ", place), func(e *impl.Engine) { e.Queues[place] = []impl.Msg{{Mark: 17}} }},
			reason{fmt.Sprint("a full queue ", place), func(e *impl.Engine) { e.Queues[place] = []impl.Msg{msg, {Mark: 17}, msg} }},
			reason{fmt.Sprint("a mark less in ", place), func(e *impl.Engine) { e.Sent[place], e.Shards[place].Mark = 16, 16 }},
			reason{fmt.Sprint("a mark that was never sent to ", place), func(e *impl.Engine) { e.Sent[place], e.Shards[place].Mark = noMark, noMark }},
			// The end of the window 0 is 9.
			reason{fmt.Sprint("a closed window of ", place), func(e *impl.Engine) {
				e.Shards[place].Aggs = append([]impl.Agg{anAgg(0, 7, 1)}, e.Shards[place].Aggs...)
			}},
		)
	}
	list = append(list,
		reason{"a greater mark", func(e *impl.Engine) { e.Mark = 18 }},
		reason{"a window that closes just now", func(e *impl.Engine) {
			e.Mark, e.Sent, e.Shards[2].Mark = 19, []int{19, 19, 19}, 19
		}},
		reason{"a smaller size", func(e *impl.Engine) { e.Setup.Size = 9 }},
		reason{"a closed window and a full Out", func(e *impl.Engine) {
			e.Shards[0].Aggs, e.Out = []impl.Agg{anAgg(0, 7, 1)}, []impl.Agg{anAgg(0, 1, 5), anAgg(0, 2, 5)}
		}},
	)
	for _, c := range list {
		e := aRestingEngine()
		c.change(&e)
		if !impl.EngineSafe(e) {
			t.Fatalf("%s: %+v is not safe", c.name, e)
		}
		if impl.AtRest(e) || impl.StuckAt(e) {
			t.Errorf("%s: %+v is at rest: %t, stuck: %t", c.name, e, impl.AtRest(e), impl.StuckAt(e))
		}
	}
}

func TestWhatIsAtRest(t *testing.T) {
	for _, c := range []reason{
		{"it as it is", func(*impl.Engine) {}},
		{"no Conns", func(e *impl.Engine) { e.Conns = nil }},
		{"a window that does not close yet", func(e *impl.Engine) {
			e.Mark, e.Sent, e.Shards[2].Mark, e.Shards[1].Mark = 18, []int{18, 18, 18}, 18, 18
		}},
		// What was sent to a shard has come to it, or it stands in its queue; nothing is said of the mark it has.
		{"a shard behind what was sent to it", func(e *impl.Engine) { e.Shards[0].Mark = noMark }},
		{"nothing said yet", func(e *impl.Engine) { *e = plainEngine(impl.DefaultSetup()) }},
		{"any numbers", func(e *impl.Engine) { e.Now, e.Tally.Read = -5, -7 }},
		{"a mark above all", func(e *impl.Engine) { e.Mark, e.Sent = math.MaxInt, []int{math.MaxInt, math.MaxInt, math.MaxInt} }},
		{"drained", func(e *impl.Engine) { e.Mode, e.Shards[1].Aggs, e.Shards[2].Aggs = impl.ModeDrained, nil, nil }},
		{"it drains", func(e *impl.Engine) { e.Mode, e.Shards[1].Aggs, e.Shards[2].Aggs = impl.ModeDrains, nil, nil }},
	} {
		e := aRestingEngine()
		c.change(&e)
		if !impl.AtRest(e) || !impl.StuckAt(e) {
			t.Errorf("%s: %+v is at rest: %t, stuck: %t", c.name, e, impl.AtRest(e), impl.StuckAt(e))
		}
	}
	// Behind the end what is held is flushed, also what is not closed.
	for _, mode := range []int{impl.ModeDrains, impl.ModeDrained} {
		e := aRestingEngine()
		e.Mode = mode
		if !impl.AtRest(e) || impl.StuckAt(e) {
			t.Errorf("%+v is at rest: %t, stuck: %t", e, impl.AtRest(e), impl.StuckAt(e))
		}
	}
}

// A round in which nothing is done but the tick: the tick does not count, not even where it is the
// one with which a source turns idle.
func TestTheTickDoesNotCount(t *testing.T) {
	r := aScript(t, func(s *impl.Setup) { s.IdleAfter = 5 })
	r.done(opOpen(), opOpen(), opTick(3), opFeed(0, event(1, 40, 1)), opRead(0), opRoute(), opShard(0))
	check := func(mark int, rest bool) {
		t.Helper()
		if r.e.Mark != mark || impl.StuckAt(r.e) != rest || impl.AtRest(r.e) != rest {
			t.Fatalf("%v: stuck %t, at rest %t: %+v", opsText(r.ops), impl.StuckAt(r.e), impl.AtRest(r.e), r.e)
		}
	}
	check(noMark, true)
	for _, op := range aRound(2, 2) {
		if code := r.step(op); (code == impl.OpDone) != (op.Kind == 0) {
			t.Fatalf("%v tells %d: %+v", op, code, r.e)
		}
		check(noMark, true)
	}
	r.done(opTick(1))
	check(37, false)
	r.done(opRoute(), opShard(0))
	check(37, false)
	r.done(opShard(1))
	check(37, true)
	r.done(opTick(1000))
	check(37, true)
}

func checkRounds(t *testing.T, s impl.Setup, ops []impl.Op, n int, want impl.Engine, wantOut []impl.Agg) {
	t.Helper()
	e, out, ok := impl.PlayRounds(s, ops, n)
	if !ok || !sameEngine(e, want) || !slices.Equal(out, wantOut) {
		t.Fatalf("%v, then %d rounds:\ngot  %+v, %v, %t\nwant %+v, %v", opsText(ops), n, e, out, ok, want, wantOut)
	}
	if got := impl.IdleFlow(s, ops, n); got != want.Mark {
		t.Fatalf("%v, then %d rounds: IdleFlow = %d, want %d", opsText(ops), n, got, want.Mark)
	}
	if got := impl.Reached(s, ops, n); got != impl.AtRest(want) {
		t.Fatalf("%v, then %d rounds: Reached = %t at %+v", opsText(ops), n, got, want)
	}
}

// The rounds are the ops of RoundOps, one after the other.
func TestPlayRoundsPlaysTheOps(t *testing.T) {
	emitted, marks, rests, drained := 0, 0, 0, 0
	for seed := range 60 {
		s, ops := aMess(3000+seed, 20+seed)
		ops = ops[:20+seed]
		if seed%2 == 0 {
			ops = append(ops, opEnd())
		}
		for n := 0; ; n++ {
			e, out, _, ok := impl.PlayEngine(s, ops)
			checkRounds(t, s, ops, 0, e, out)
			all := slices.Clone(ops)
			for range n {
				all = append(all, impl.RoundOps(e)...)
			}
			if len(all) > impl.MaxOps || !ok {
				break
			}
			behind, out, _, _ := impl.PlayEngine(s, all)
			checkRounds(t, s, ops, n, behind, out)
			emitted, marks = emitted+len(out), marks+behind.Mark-e.Mark
			if impl.AtRest(behind) {
				rests++
			}
			if behind.Mode == impl.ModeDrained {
				drained++
			}
		}
	}
	// The scripts are worth something only when all of it came about.
	if min(emitted, marks, rests, drained) < 50 {
		t.Errorf("%d emitted, %d marks, %d at rest, %d drained", emitted, marks, rests, drained)
	}
}

func TestOneRoundAfterTheOther(t *testing.T) {
	s := impl.DefaultSetup()
	first, second := event(aKey(0, 0), 5, 1), event(aKey(1, 0), 25, 2)
	ops := []impl.Op{opOpen(), opFeed(0, first, second)}
	source := func(max int, seen int) impl.Source {
		return impl.Source{Max: max, Mark: max - 3, Seen: seen, Open: true}
	}
	e := plainEngine(s)
	e.Conns = []impl.Conn{{Decoder: impl.Decoder{Buf: bytesOf(first, second)}, Source: impl.Source{Max: -1, Mark: -1, Open: true}}}
	checkRounds(t, s, ops, 0, e, nil)
	// The tick comes ahead of the read, and what is read comes as far as it can.
	e.Now, e.Conns[0] = 1, impl.Conn{Decoder: impl.Decoder{Buf: bytesOf(second)}, Source: source(5, 1)}
	e.Mark, e.Sent, e.Tally = 2, []int{2, -1}, impl.Tally{Read: 1, Taken: 1}
	e.Shards[0] = impl.Shard{Aggs: []impl.Agg{anAgg(0, aKey(0, 0), 1)}, Mark: 2}
	checkRounds(t, s, ops, 1, e, nil)
	e.Now, e.Conns[0] = 2, impl.Conn{Source: source(25, 2)}
	e.Mark, e.Sent, e.Tally = 22, []int{2, 22}, impl.Tally{Read: 2, Taken: 2}
	e.Shards[1] = impl.Shard{Aggs: []impl.Agg{anAgg(2, aKey(1, 0), 2)}, Mark: 22}
	checkRounds(t, s, ops, 2, e, nil)
	e.Now, e.Sent, e.Shards[0].Mark = 3, []int{22, 22}, 22
	checkRounds(t, s, ops, 3, e, nil)
	e.Now, e.Shards[0].Aggs = 4, nil
	out := []impl.Agg{anAgg(0, aKey(0, 0), 1)}
	checkRounds(t, s, ops, 4, e, out)
	// Then nothing is done but the tick, with which the source turns idle at 7.
	for n := 5; n <= 20; n++ {
		e.Now, e.Conns[0].Source.Idle = n, n >= 7
		checkRounds(t, s, ops, n, e, out)
	}
	e.Now = mostRounds
	checkRounds(t, s, ops, mostRounds, e, out)
}

// Rounds without a Conn, and with bytes that are no whole frame or none at all.
func TestRoundsWithNothingToRead(t *testing.T) {
	s := impl.DefaultSetup()
	for _, n := range []int{0, 1, 7, mostRounds} {
		e := plainEngine(s)
		e.Now = n
		checkRounds(t, s, nil, n, e, nil)
		part := bytesOf(event(1, 2, 3))[:eventSize-1]
		e.Conns = []impl.Conn{{Decoder: impl.Decoder{Buf: part}, Source: impl.Source{Max: -1, Mark: -1, Open: true, Idle: n >= 5}}}
		checkRounds(t, s, []impl.Op{opOpen(), opBytes(0, part)}, n, e, nil)
		e.Conns[0] = impl.Conn{Decoder: impl.Decoder{Bad: n > 0}, Source: impl.Source{Max: -1, Mark: -1, Open: n == 0}}
		if n == 0 {
			e.Conns[0].Decoder.Buf = bent()
		} else {
			e.Tally.Bent = 1
		}
		checkRounds(t, s, []impl.Op{opOpen(), opBytes(0, bent())}, n, e, nil)
	}
}

// A source that gives nothing holds the mark until it turns idle by the ticks of the rounds.
func TestRoundsMakeSourcesIdle(t *testing.T) {
	for _, after := range []int{0, 1, 2, 5, 30, mostRounds, 1000} {
		s := impl.DefaultSetup()
		s.IdleAfter = after
		// The silent one was seen at 0, the other one comes 1 later, with its mark in In.
		ops := []impl.Op{opOpen(), opOpen(), opTick(1), opFeed(0, event(1, 5, 1), mark(60)), opRead(0), opRead(0)}
		idle := after - 1
		for _, n := range []int{0, 1, idle - 1, idle, idle + 1, idle + 2, idle + 3, mostRounds} {
			if n < 0 || n > mostRounds {
				continue
			}
			want := noMark
			if after > 1 && n >= idle {
				want = 60
			}
			if after == 1 {
				// It was idle ahead of the event.
				want = 60
			}
			if got := impl.IdleFlow(s, ops, n); got != want {
				t.Errorf("idle after %d: the mark is %d behind %d rounds, want %d", after, got, n, want)
			}
			e, out, _ := impl.PlayRounds(s, ops, n)
			if emitted := len(out); want == noMark && emitted != 0 || n == mostRounds && want == 60 && emitted != 1 {
				t.Errorf("idle after %d: behind %d rounds %v is emitted: %+v", after, n, out, e)
			}
			// Where the mark is held, it rests, too; and so it does behind a few rounds with the mark.
			if n > 1 && n < idle || n == mostRounds {
				if !impl.Reached(s, ops, n) || !impl.StuckAt(e) {
					t.Errorf("idle after %d: no rest behind %d rounds: %+v", after, n, e)
				}
			}
		}
	}
}

func checkNoRounds(t *testing.T, s impl.Setup, ops []impl.Op, n int) {
	t.Helper()
	e, out, ok := impl.PlayRounds(s, ops, n)
	if ok || !sameEngine(e, impl.Engine{}) || len(out) != 0 {
		t.Errorf("PlayRounds(%v, %d ops, %d) = %+v, %v, %t", s, len(ops), n, e, out, ok)
	}
	if got := impl.IdleFlow(s, ops, n); got != -2 {
		t.Errorf("IdleFlow(%v, %d ops, %d) = %d", s, len(ops), n, got)
	}
	if impl.Reached(s, ops, n) {
		t.Errorf("Reached(%v, %d ops, %d)", s, len(ops), n)
	}
}

func TestRoundsRefuse(t *testing.T) {
	s := impl.DefaultSetup()
	ops := []impl.Op{opOpen(), opFeed(0, event(1, 5, 1), mark(60)), opRead(0), opRead(0), opRoute(), opShard(0), opShard(1), opShard(0), opSink(1)}
	for _, n := range noCounts() {
		checkNoRounds(t, s, nil, n)
		checkNoRounds(t, s, ops, n)
	}
	for _, numbers := range noNumbers() {
		checkNoRounds(t, aSetup(numbers), nil, 0)
		checkNoRounds(t, aSetup(numbers), ops, 3)
		if got := impl.RoundsToDrain(aSetup(numbers), ops); got != -1 {
			t.Errorf("RoundsToDrain(%v) = %d", numbers, got)
		}
	}
	for _, n := range []int{impl.MaxOps + 1, impl.MaxOps + 2, 1000} {
		many := slices.Repeat([]impl.Op{opTick(1)}, n)
		checkNoRounds(t, s, many, 0)
		checkNoRounds(t, s, many, 5)
		if got := impl.RoundsToDrain(s, many); got != -1 {
			t.Errorf("RoundsToDrain of %d ops = %d", n, got)
		}
	}
	for _, n := range []int{0, 1, mostRounds - 1, mostRounds} {
		if e, _, ok := impl.PlayRounds(s, ops, n); !ok || e.Now != n {
			t.Errorf("PlayRounds(%d) = %+v, %t", n, e, ok)
		}
	}
}

// Rounds are not counted as ops, but the end is one.
func TestRoundsBehindAsManyOpsAsThereMayBe(t *testing.T) {
	s := impl.DefaultSetup()
	full := append(slices.Repeat([]impl.Op{opTick(1)}, impl.MaxOps-2), opOpen(), opFeed(0, event(1, 5, 1), mark(60)))
	e, out, ok := impl.PlayRounds(s, full, mostRounds)
	if !ok || e.Now != impl.MaxOps-2+mostRounds || e.Mark != 60 || !impl.AtRest(e) || !slices.Equal(out, []impl.Agg{anAgg(0, 1, 1)}) {
		t.Errorf("%+v, %v, %t", e, out, ok)
	}
	if impl.IdleFlow(s, full, 2) != 60 || !impl.Reached(s, full, mostRounds) {
		t.Errorf("the mark is %d", impl.IdleFlow(s, full, 2))
	}
	for n, want := range map[int]int{impl.MaxOps - 2: 2, impl.MaxOps - 1: 2, impl.MaxOps: -1, impl.MaxOps + 1: -1} {
		ops := append(slices.Repeat([]impl.Op{opTick(1)}, max(0, n-2)), opOpen(), opFeed(0, event(1, 5, 1), mark(60)))
		if got := impl.RoundsToDrain(s, ops); got != want {
			t.Errorf("RoundsToDrain of %d ops = %d, want %d", n, got, want)
		}
	}
}

func TestRoundsToDrain(t *testing.T) {
	for _, c := range []struct {
		name string
		ops  []impl.Op
		want int
	}{
		{"nothing", nil, 0},
		{"a Conn", []impl.Op{opOpen()}, 0},
		{"the beginning of a frame", []impl.Op{opOpen(), opBytes(0, bytesOf(event(1, 2, 3))[:4])}, 0},
		{"all was emitted", []impl.Op{opOpen(), opFeed(0, event(aKey(0, 0), 5, 1), mark(60)), opRead(0), opRead(0), opRoute(), opRoute(), opShard(0),
			opShard(0), opShard(0), opShard(1), opSink(1)}, 0},
		{"a bye", []impl.Op{opOpen(), opFeed(0, bye())}, 1},
		{"bad bytes", []impl.Op{opOpen(), opBytes(0, bent())}, 1},
		{"a mark", []impl.Op{opOpen(), opFeed(0, mark(7))}, 1},
		{"three marks", []impl.Op{opOpen(), opFeed(0, mark(7), mark(8), mark(9))}, 3},
		{"three marks of three", []impl.Op{opOpen(), opOpen(), opOpen(), opFeed(0, mark(7)), opFeed(1, mark(8)), opFeed(2, mark(9))}, 1},
		// It is read, routed and added in the first round, and flushed and emitted in the second one.
		{"an event", []impl.Op{opOpen(), opFeed(0, event(1, 5, 1))}, 2},
		{"an event in In", []impl.Op{opOpen(), opFeed(0, event(1, 5, 1)), opRead(0)}, 2},
		{"an event in a queue", []impl.Op{opOpen(), opFeed(0, event(1, 5, 1)), opRead(0), opRoute()}, 2},
		{"an event that is added", []impl.Op{opOpen(), opFeed(0, event(aKey(0, 0), 5, 1)), opRead(0), opRoute(), opShard(0)}, 1},
		{"two windows of one shard", []impl.Op{opOpen(), opFeed(0, event(1, 5, 1), event(1, 15, 1))}, 4},
		{"bad bytes behind an event", []impl.Op{opOpen(), opBytes(0, append(bytesOf(event(1, 5, 1)), bent()...))}, 2},
	} {
		checkDrainedBehind(t, c.name, impl.DefaultSetup(), c.ops, c.want)
		// With an end of its own the second one does nothing.
		checkDrainedBehind(t, c.name+", ended", impl.DefaultSetup(), withEnd(c.ops), c.want)
	}
}

// checkDrainedBehind: behind so many rounds it is drained, and behind one less it is not.
func checkDrainedBehind(t *testing.T, name string, s impl.Setup, ops []impl.Op, want int) {
	t.Helper()
	if got := impl.RoundsToDrain(s, ops); got != want {
		t.Fatalf("%s: RoundsToDrain(%v) = %d, want %d", name, opsText(ops), got, want)
	}
	if e, _, _ := impl.PlayRounds(s, withEnd(ops), want); e.Mode != impl.ModeDrained {
		t.Errorf("%s: %v is not drained behind %d rounds: %+v", name, opsText(ops), want, e)
	}
	if want == 0 {
		return
	}
	if e, _, _ := impl.PlayRounds(s, withEnd(ops), want-1); e.Mode != impl.ModeDrains {
		t.Errorf("%s: %v is drained behind less than %d rounds: %+v", name, opsText(ops), want, e)
	}
}

// longScript leaves 336 events and more of them, each in a window of its own; 160 of them find
// room. All of that goes through the router and then the sink one by one.
func longScript(more int) (impl.Setup, []impl.Op) {
	s := impl.Setup{Sources: 6, Shards: 4, Size: 1, Late: 1000, CapIn: 20, CapShard: 20, CapOut: 20, Room: 40}
	at := 0
	some := func(n int) []impl.Frame {
		var list []impl.Frame
		for range n {
			list = append(list, event(at%7, at, 5))
			at++
		}
		return list
	}
	var ops []impl.Op
	for conn := range impl.MaxConns {
		ops = append(ops, opOpen(), opFeed(conn, some(28)...))
		if conn == 0 {
			ops = append(append(ops, slices.Repeat([]impl.Op{opRead(0)}, more)...), opFeed(0, some(more)...))
		}
		ops = append(ops, opClose(conn))
	}
	return s, ops
}

// A script may need more rounds than there may be.
func TestRoundsToDrainOfALongScript(t *testing.T) {
	for more, want := range map[int]int{0: 495, 1: 496, 5: mostRounds} {
		s, ops := longScript(more)
		checkDrainedBehind(t, fmt.Sprint(more, " more"), s, ops, want)
		_, out, _ := impl.PlayRounds(s, withEnd(ops), want)
		if len(out) != 160 {
			t.Errorf("%d are emitted", len(out))
		}
	}
	for _, more := range []int{6, 7, 20} {
		s, ops := longScript(more)
		if got := impl.RoundsToDrain(s, ops); got != -1 {
			t.Errorf("%d more: RoundsToDrain = %d", more, got)
		}
		e, out, ok := impl.PlayRounds(s, withEnd(ops), mostRounds)
		if left := impl.TotalOf(e); !ok || e.Mode != impl.ModeDrains || left != more-5 || len(out) != 160-left {
			t.Errorf("%d more: %d are left, %d are emitted, %t: %+v", more, left, len(out), ok, e)
		}
	}
}

// aFedScript is what many feed, without an end: some of it is still on its way.
func aFedScript(seed int) (impl.Setup, []impl.Op) {
	next := stir(seed)
	s := aLittleSetup(next)
	s.Room = 1 + next(impl.MaxAggs)
	if next(3) == 0 {
		s.CapIn, s.CapShard, s.CapOut = 1+next(impl.MaxCap), 1+next(impl.MaxCap), 1+next(impl.MaxCap)
	}
	ops := slices.Repeat([]impl.Op{opOpen()}, s.Sources)
	// Which stages had their turns less often is another one in each script.
	lazy := 4 + next(6)
	for n := 20 + next(impl.MaxOps-30); len(ops) < n; {
		op := anOp(next, len(ops))
		if op.Kind == lazy && next(5) > 0 {
			op = opFeed(next(s.Sources), event(next(20), len(ops)+next(300), next(9)), event(next(20), len(ops)+next(90), next(9)))
		}
		ops = append(ops, op)
	}
	return s, ops
}

// Behind the end each script is drained within its bound: what was read is taken, late or over, and
// what was taken is emitted, once and of each shard in order (promise 9).
func TestDrainedWithinTheBound(t *testing.T) {
	var sum impl.Tally
	most, least := 0, mostRounds
	for seed := range 250 {
		s, ops := aFedScript(seed)
		start, early, _, _ := impl.PlayEngine(s, withEnd(ops))
		bound, n := impl.DrainBound(start), impl.RoundsToDrain(s, ops)
		if n < 0 || n > bound {
			t.Fatalf("%v: %d rounds to drain, with a bound of %d: %+v", opsText(ops), n, bound, start)
		}
		most, least = max(most, n), min(least, bound-n)
		if seed%5 == 0 {
			checkDrainedBehind(t, "a fed script", s, ops, n)
		}
		e, out, ok := impl.PlayRounds(s, withEnd(ops), min(bound, mostRounds))
		y := e.Tally
		if !ok || e.Mode != impl.ModeDrained || impl.InFlight(e)+impl.TotalOf(e)+impl.FramesLeft(e) > 0 || y.Read != y.Taken+y.Late+y.Over {
			t.Fatalf("%v: not drained: %+v", opsText(ops), e)
		}
		if impl.TotalCount(out) != y.Taken || !impl.EmittedOnce(out) || !impl.EmittedInOrder(out, s.Shards) || !slices.Equal(out[:len(early)], early) {
			t.Fatalf("%v: %d taken, and %v is emitted", opsText(ops), y.Taken, out)
		}
		if y.Read-start.Tally.Read != eventsLeft(start) {
			t.Fatalf("%v: %d events were left, %+v became %+v", opsText(ops), eventsLeft(start), start.Tally, y)
		}
		sum = impl.Tally{Read: sum.Read + y.Read - start.Tally.Read, Taken: sum.Taken + y.Taken - start.Tally.Taken,
			Late: sum.Late + y.Late - start.Tally.Late, Over: sum.Over + y.Over - start.Tally.Over, Bent: sum.Bent + y.Bent - start.Tally.Bent}
	}
	// The scripts are worth something only when much was left behind the end, and the bound is near.
	if min(sum.Taken, sum.Late, sum.Over) < 100 || sum.Bent < 5 || most < 100 || least > 30 {
		t.Errorf("%+v, at most %d rounds, at least %d less than the bound", sum, most, least)
	}
}

// eventsLeft counts the events that the Conns of an engine still have.
func eventsLeft(e impl.Engine) int {
	n := 0
	for _, c := range e.Conns {
		frames, _, _ := impl.AllFrames(c.Decoder.Buf)
		for _, f := range frames {
			if f.Kind == impl.FrameEvent {
				n++
			}
		}
	}
	return n
}

// checkRest: what is stuck is at rest, and while it runs, what is at rest is stuck.
func checkRest(t *testing.T, e impl.Engine) bool {
	t.Helper()
	stuck, rest := impl.StuckAt(e), impl.AtRest(e)
	if stuck && !rest || e.Mode == impl.ModeRuns && rest != stuck {
		t.Fatalf("stuck is %t, at rest is %t: %+v", stuck, rest, e)
	}
	return rest
}

// An engine that is stuck is at rest, and behind enough rounds each is: what was read is then taken,
// late or over, and all that stays is held in windows that are not closed (promise 10).
func TestAtRestBehindEnoughRounds(t *testing.T) {
	moves, rests, held := 0, 0, 0
	for seed := range 60 {
		s, ops := aFedScript(1000 + seed)
		if seed%4 == 0 {
			ops = append(ops, opEnd())
		}
		for n := 0; n < len(ops); n += 7 {
			e, _, _, _ := impl.PlayEngine(s, ops[:n])
			if checkRest(t, e) {
				rests++
			} else {
				moves++
			}
		}
		for n := range 12 {
			e, _, _ := impl.PlayRounds(s, ops, n*n)
			checkRest(t, e)
		}
		e, out, ok := impl.PlayRounds(s, ops, mostRounds)
		if !ok || !checkRest(t, e) || !impl.StuckAt(e) || !impl.Reached(s, ops, mostRounds) || len(e.In)+len(e.Out)+impl.FramesLeft(e) > 0 {
			t.Fatalf("%v: no rest: %+v", opsText(ops), e)
		}
		y := e.Tally
		if y.Read != y.Taken+y.Late+y.Over || impl.InFlight(e) != 0 || y.Taken != impl.TotalCount(out)+impl.TotalOf(e) {
			t.Fatalf("%v: an event is lost: %+v", opsText(ops), e)
		}
		for place, s := range e.Shards {
			if len(e.Queues[place]) > 0 || e.Sent[place] != e.Mark || s.Mark != e.Mark || len(impl.ClosedOf(s, e.Setup.Size)) > 0 {
				t.Fatalf("%v: the shard %d is not at rest: %+v", opsText(ops), place, e)
			}
		}
		held += impl.TotalOf(e)
		// Then nothing is done but the ticks: nothing else changes any more.
		before, beforeOut, _ := impl.PlayRounds(s, ops, mostRounds-1)
		before.Now++
		if !sameEngine(before, e) || !slices.Equal(out, beforeOut) {
			t.Fatalf("%v: it goes on:\n%+v\n%+v", opsText(ops), before, e)
		}
	}
	if min(moves, rests, held) < 50 {
		t.Errorf("%d moved, %d rested, %d events are held", moves, rests, held)
	}
}

// No source that is silent holds the mark of all for longer than IdleAfter: behind enough rounds all
// are idle or closed (promise 4).
func TestRoundsGoOnWithoutSilentSources(t *testing.T) {
	moved := 0
	for seed := range 40 {
		s, ops := aFedScript(2000 + seed)
		s.IdleAfter = 1 + seed%9
		last := noMark
		for _, n := range []int{0, 1, 2, 5, 9, 20, 100, mostRounds} {
			e, _, _ := impl.PlayRounds(s, ops, n)
			for _, c := range e.Conns {
				x := c.Source
				if x.Open && !x.Idle && (n > 0 && e.Now-x.Seen >= s.IdleAfter || n == mostRounds) {
					t.Fatalf("%v: behind %d rounds %+v is silent for too long at %d", opsText(ops), n, x, e.Now)
				}
			}
			if e.Mark < last {
				t.Fatalf("%v: the mark fell from %d to %d", opsText(ops), last, e.Mark)
			}
			if n > 0 && e.Mark > last {
				moved++
			}
			last = e.Mark
		}
	}
	if moved < 30 {
		t.Errorf("%d marks went on", moved)
	}
}

// While it runs, nothing is emitted ahead of its time in any round.
func TestRoundsEmitInTime(t *testing.T) {
	emitted := 0
	for seed := range 30 {
		s, ops := aFedScript(4000 + seed)
		for _, n := range []int{0, 3, 10, 50, 200} {
			e, out, _ := impl.PlayRounds(s, ops, n)
			if !impl.CountsAdd(e) || !impl.InTime(out, s.Size, e.Mark) && e.Mode == impl.ModeRuns || !impl.EmittedOnce(out) || !impl.EmittedInOrder(out, s.Shards) {
				t.Fatalf("%v: behind %d rounds %v is emitted: %+v", opsText(ops), n, out, e)
			}
			emitted += len(out)
		}
	}
	if emitted < 100 {
		t.Errorf("%d are emitted", emitted)
	}
}

func TestRoundsAreNewMemory(t *testing.T) {
	b := append(make([]byte, 0, 50), bytesOf(event(1, 2, 3), event(2, 30, 4))...)
	was := slices.Clone(b[:cap(b)])
	ops := append(make([]impl.Op, 0, 20), opOpen(), opOpen(), opOpen(), opBytes(0, b), opBytes(1, b), opBytes(2, b[:5]), opRead(0), opClose(2))
	given := opsText(ops)
	e, out, ok := impl.PlayRounds(impl.DefaultSetup(), ops, 1)
	impl.RoundsToDrain(impl.DefaultSetup(), ops)
	if !ok || !slices.Equal(b[:cap(b)], was) || opsText(ops) != given || ops[:20][len(ops)].Kind != 0 || len(e.Conns[2].Decoder.Buf) != 5 {
		t.Fatalf("%+v, %v: %v", e, ok, opsText(ops))
	}
	checkApart(t, "bytes", func(i int) byte { return byte(7 + i) }, b, e.Conns[0].Decoder.Buf, e.Conns[1].Decoder.Buf, e.Conns[2].Decoder.Buf)
	checkApart(t, "messages", func(i int) impl.Msg { return impl.Msg{Mark: 7 + i} }, append([][]impl.Msg{e.In}, e.Queues...)...)
	checkApart(t, "aggs", func(i int) impl.Agg { return impl.Agg{Win: 7 + i} }, e.Out, out, e.Shards[0].Aggs, e.Shards[1].Aggs)
	first, second := impl.RoundOps(aSafeEngine()), impl.RoundOps(aSafeEngine())
	checkApart(t, "ops", func(i int) int { return 7 + i }, []int{len(first)}, []int{len(second)})
	first[0].A = 77
	if second[0].A != 1 || impl.RoundOps(aSafeEngine())[0].A != 1 {
		t.Errorf("%v", second)
	}
}

// What is asked of an engine leaves it as it was, whatever its round would do.
func TestAskingForRoundsLeavesTheEngine(t *testing.T) {
	for _, of := range []func() impl.Engine{aSafeEngine, aRestingEngine} {
		for mode := range 3 {
			e, want := of(), of()
			e.Mode, want.Mode = mode, mode
			e.Queues = append(make([][]impl.Msg, 0, 5), e.Queues...)
			e.In = append(make([]impl.Msg, 0, 5), e.In...)
			e.Out = append(make([]impl.Agg, 0, 5), e.Out...)
			e.Conns = append(make([]impl.Conn, 0, 5), e.Conns...)
			impl.RoundOps(e)
			impl.FramesLeft(e)
			impl.DrainBound(e)
			impl.StuckAt(e)
			impl.AtRest(e)
			if !sameEngine(e, want) || e.Queues[:5][4] != nil || e.In[:5][4] != (impl.Msg{}) || e.Out[:5][4] != (impl.Agg{}) || e.Conns[:5][4].Decoder.Buf != nil {
				t.Errorf("%+v became %+v", want, e)
			}
		}
	}
}

// Rounds that are played at the same time do not hear of each other.
func TestRoundsAtTheSameTime(t *testing.T) {
	s, ops := aFedScript(77)
	want, wantOut, _ := impl.PlayRounds(s, ops, 60)
	told := make(chan bool)
	for range 8 {
		go func() {
			e, out, ok := impl.PlayRounds(s, ops, 60)
			told <- ok && sameEngine(e, want) && slices.Equal(out, wantOut)
		}()
	}
	for range 8 {
		if !<-told {
			t.Error("other rounds")
		}
	}
}
