package stats

import (
	"math"
	"math/rand"
	"slices"
	"testing"

	"hackney/api"
	"hackney/conf"
	"hackney/hist"
	"hackney/picks"
	"hackney/pool"
	"hackney/ratio"
)

// is: it was wanted so, or a test fails.
func is[T comparable](t *testing.T, what string, got, want T) {
	t.Helper()
	if got != want {
		t.Errorf("%s: %v, wanted %v", what, got, want)
	}
}

// same: both are nothing, or the same bits, or a test fails.
func same(t *testing.T, what string, got, want float64) {
	t.Helper()
	if math.IsNaN(got) && math.IsNaN(want) {
		return
	}
	is(t, what, math.Float64bits(got), math.Float64bits(want))
}

// nothing: what there is nothing of.
var nothing = math.NaN()

// ops: all of them.
var ops = []int{hist.Get, hist.Put, hist.Evict, hist.Close, hist.House}

// call: an event of that kind.
func call(step uint64, thread, op int) hist.Event {
	return hist.Event{Step: step, Thread: thread, Kind: hist.Call, Op: op}
}

// answer: likewise.
func answer(step uint64, thread, op int, e api.Errno) hist.Event {
	return hist.Event{Step: step, Thread: thread, Kind: hist.Answer, Op: op, Err: e}
}

// other: an event that is neither.
func other(step uint64, thread, kind, op int) hist.Event {
	return hist.Event{Step: step, Thread: thread, Kind: kind, Op: op}
}

// some: three Gets, of which one timed out, and one isn't done yet; a Put
// that went wrong; a round that took no step.
func some() []hist.Event {
	return []hist.Event{
		call(0, 0, hist.Get),
		call(2, 1, hist.Get),
		call(2, 2, hist.House),
		answer(2, 2, hist.House, api.OK),
		other(4, 0, hist.Point, hist.Get),
		answer(6, 0, hist.Get, api.OK),
		call(7, 0, hist.Put),
		other(8, 2, hist.Retire, hist.House),
		answer(9, 1, hist.Get, api.ErrTimeout),
		other(9, 0, hist.Point, hist.Put),
		answer(9, 0, hist.Put, api.ErrNotHeld),
		other(9, 0, hist.Retire, hist.Put),
		call(10, 1, hist.Get),
	}
}

// poolOf: a new pool.
func poolOf(t *testing.T, c conf.Conf, threads int) *pool.Pool {
	t.Helper()
	p, e := pool.New(c, threads, nil, nil)
	if e != api.OK {
		t.Fatal(e)
	}
	return p
}

// does: a call, from its beginning to its end.
func does(t *testing.T, p *pool.Pool, thread, op int, id uint64) {
	t.Helper()
	is(t, "the call", p.Call(thread, op, id, 3), api.OK)
	for range 300 {
		if !p.Step(thread) {
			return
		}
	}
	t.Fatalf("not done, but in %s", p.State(thread))
}

// P26.1: counts by kind, op and error.
func TestCounts(t *testing.T) {
	l := some()
	for op, want := range []int{3, 1, 0, 0, 1} {
		is(t, "calls", Calls(op, l...), want)
	}
	is(t, "a get, well", Answers(hist.Get, api.OK, l...), 1)
	is(t, "a get, too late", Answers(hist.Get, api.ErrTimeout, l...), 1)
	is(t, "a get, closed", Answers(hist.Get, api.ErrClosed, l...), 0)
	is(t, "a put, well", Answers(hist.Put, api.OK, l...), 0)
	is(t, "a put of what isn't held", Answers(hist.Put, api.ErrNotHeld, l...), 1)
	is(t, "a round", Answers(hist.House, api.OK, l...), 1)
	is(t, "retired", Retired(l...), 2)
}

// P26.1: of no events, no such op, no such error, no such kind.
func TestNothingToCount(t *testing.T) {
	for _, l := range [][]hist.Event{nil, {}, {other(1, 0, 4, hist.Get), other(1, 0, -1, hist.Get)}} {
		for _, op := range append(ops, -1, 5, math.MaxInt, math.MinInt) {
			is(t, "calls", Calls(op, l...), 0)
			is(t, "answers", Answers(op, api.OK, l...), 0)
			same(t, "took", Took(op, l...), nothing)
			same(t, "well", Well(op, l...), nothing)
		}
		is(t, "retired", Retired(l...), 0)
	}
	l := some()
	for _, op := range []int{-1, 5, math.MaxInt, math.MinInt} {
		is(t, "calls of no op", Calls(op, l...), 0)
		is(t, "answers of no op", Answers(op, api.OK, l...), 0)
		same(t, "took of no op", Took(op, l...), nothing)
		same(t, "well of no op", Well(op, l...), nothing)
	}
	for _, e := range []api.Errno{-1, api.ErrPanic + 1, math.MaxInt} {
		is(t, "answers of no error", Answers(hist.Get, e, l...), 0)
	}
}

// P26.2: how many steps, of answered calls alone.
func TestTook(t *testing.T) {
	l := some()
	same(t, "gets", Took(hist.Get, l...), 6.5) // 6 and 7; the third isn't done
	same(t, "puts", Took(hist.Put, l...), 2)
	same(t, "rounds", Took(hist.House, l...), 0)
	same(t, "closings", Took(hist.Close, l...), nothing)
	same(t, "not yet", Took(hist.Get, l[:4]...), nothing)
}

// P26.2: each answer's call is the last one of its own thread.
func TestTookByThreads(t *testing.T) {
	l := []hist.Event{
		call(1, 0, hist.Get), call(5, 1, hist.Get),
		answer(11, 0, hist.Get, api.OK), call(20, 0, hist.Get),
		answer(21, 1, hist.Get, api.OK), answer(21, 0, hist.Get, api.OK),
	}
	same(t, "10, 16 and 1", Took(hist.Get, l...), 9)
	far := []hist.Event{
		call(math.MaxUint64-9, 7, hist.Put), answer(math.MaxUint64, 7, hist.Put, api.OK),
		call(0, 6, hist.Evict), answer(math.MaxUint64, 6, hist.Evict, api.OK),
	}
	same(t, "far on", Took(hist.Put, far...), 9)
	same(t, "from the first on", Took(hist.Evict, far...), 1<<64)
}

// P26.2: they are added in order: the great one swallows what comes behind it.
func TestTookInOrder(t *testing.T) {
	great := []hist.Event{call(0, 0, hist.Get), answer(1<<53, 0, hist.Get, api.OK)}
	small := func(thread int) []hist.Event {
		return []hist.Event{call(1<<53, thread, hist.Get), answer(1<<53+1, thread, hist.Get, api.OK)}
	}
	l := slices.Concat(great, small(1), small(2))
	same(t, "the great one first", Took(hist.Get, l...), ratio.Mean(1<<53, 1, 1))
	l = []hist.Event{
		call(0, 0, hist.Get),
		call(1, 1, hist.Get), answer(2, 1, hist.Get, api.OK), call(3, 2, hist.Get), answer(4, 2, hist.Get, api.OK),
		answer(1<<53, 0, hist.Get, api.OK),
	}
	same(t, "the great one last", Took(hist.Get, l...), ratio.Mean(1, 1, 1<<53))
}

// P26.2: a part of what was answered, not of what was called.
func TestWell(t *testing.T) {
	l := some()
	same(t, "gets", Well(hist.Get, l...), 0.5)
	same(t, "puts", Well(hist.Put, l...), 0)
	same(t, "rounds", Well(hist.House, l...), 1)
	same(t, "closings", Well(hist.Close, l...), nothing)
	same(t, "not yet", Well(hist.Get, l[:4]...), nothing)
	l = append(l, answer(11, 1, hist.Get, api.ErrOpen))
	same(t, "a third", Well(hist.Get, l...), ratio.Share(1, 3))
}

// P26.2: what is leased, of what is live.
func TestLoad(t *testing.T) {
	same(t, "of nil", Load(nil), nothing)
	p := poolOf(t, conf.Conf{Max: 4}, 2)
	same(t, "nothing is live", Load(p), nothing)
	is(t, "the call", p.Call(0, hist.Get, 0, 3), api.OK)
	for p.State(0) != "publish" {
		p.Step(0)
	}
	same(t, "live, but not leased yet", Load(p), 0)
	for p.Step(0) {
	}
	same(t, "one of one", Load(p), 1)
	does(t, p, 1, hist.Get, 0)
	does(t, p, 1, hist.Get, 0)
	does(t, p, 0, hist.Put, 1)
	same(t, "two of three", Load(p), ratio.Share(2, 3))
	does(t, p, 1, hist.Put, 2)
	does(t, p, 1, hist.Put, 3)
	same(t, "none of three", Load(p), 0)
	does(t, p, 1, hist.Close, 0)
	same(t, "all is closed", Load(p), nothing)
}

// P26.2: what is told of all ops, in their order.
func TestLine(t *testing.T) {
	is(t, "of no events", Line(), "get 0 0 nan; put 0 0 nan; evict 0 0 nan; close 0 0 nan; house 0 0 nan")
	is(t, "of some", Line(some()...), "get 3 1 0.5; put 1 0 0; evict 0 0 nan; close 0 0 nan; house 1 1 1")
	var l []hist.Event
	for op := range ops {
		for n := range 10 + op {
			l = append(l, call(1, n, op))
		}
		l = append(l, answer(1, 0, op, api.OK), answer(1, 1, op, api.ErrClosed), answer(1, 2, op, api.ErrClosed))
	}
	l = append(l, call(1, 0, 5), answer(1, 0, 5, api.OK), call(1, 0, -1))
	const third = " 1 0.3333333333333333"
	is(t, "of more", Line(l...), "get 10"+third+"; put 11"+third+"; evict 12"+third+"; close 13"+third+"; house 14"+third)
}

// P26.1, P26.2: of what a pool recorded.
func TestOfAPool(t *testing.T) {
	p := poolOf(t, conf.Conf{Max: 1}, 2)
	does(t, p, 0, hist.Get, 0)
	does(t, p, 1, hist.Put, 1) // isn't its own
	does(t, p, 0, hist.Evict, 1)
	does(t, p, 0, hist.Put, 1)
	p.Call(1, hist.Get, 0, 3)
	p.Run(picks.New(), 40)
	l := p.World().History.All()
	same(t, "gets", Took(hist.Get, l...), 6) // each opened one
	same(t, "a marking", Took(hist.Evict, l...), 1)
	is(t, "retired", Retired(l...), 1)
	is(t, "not held", Answers(hist.Put, api.ErrNotHeld, l...), 1)
	is(t, "the line", Line(l...), "get 2 2 1; put 2 1 0.5; evict 1 1 1; close 0 0 nan; house 0 0 nan")
}

// anyEvents: some, in order or not.
func anyEvents(r *rand.Rand, n int) []hist.Event {
	out := make([]hist.Event, n)
	for i := range out {
		out[i] = hist.Event{
			Step:   r.Uint64() >> r.Intn(64),
			Thread: r.Intn(10) - 1,
			Kind:   r.Intn(6) - 1,
			Op:     r.Intn(7) - 1,
			ID:     uint64(r.Intn(3)),
			Err:    api.Errno(r.Intn(5) - 1),
		}
	}
	return out
}

// total: how many answers of an op there are, by all errors.
func total(op int, l []hist.Event) int {
	n := 0
	for e := api.Errno(-1); e < 5; e++ {
		n += Answers(op, e, l...)
	}
	return n
}

// P26.3, P1: more events never make fewer calls; a share is nothing just where
// nothing was answered; and whatever the events are, each call ends, and leaves
// them as they were.
func TestMoreEvents(t *testing.T) {
	r := rand.New(rand.NewSource(26))
	for range 60 {
		l := anyEvents(r, 40)
		kept := slices.Clone(l)
		for n := range len(l) {
			less, more := l[:n:n], l[:n+1:n+1]
			for op := -1; op <= 5; op++ {
				if Calls(op, more...) < Calls(op, less...) || total(op, more) < total(op, less) {
					t.Fatalf("fewer with %v", l[n])
				}
				is(t, "nothing", math.IsNaN(Well(op, more...)), total(op, more) == 0)
				Took(op, more...)
			}
			if Retired(more...) < Retired(less...) {
				t.Fatalf("fewer retired with %v", l[n])
			}
			Line(more...)
		}
		if !slices.Equal(l, kept) {
			t.Fatal("the events aren't as they were")
		}
	}
}

// Objects: a pool that is asked stays as it was.
func TestLoadChangesNothing(t *testing.T) {
	p := poolOf(t, conf.Conf{Max: 2, Leak: 5}, 2)
	does(t, p, 0, hist.Get, 0)
	ahead, now := p.World().History.All(), p.World().History.Now()
	same(t, "load", Load(p), 1)
	same(t, "again", Load(p), 1)
	is(t, "the events", slices.Equal(p.World().History.All(), ahead), true)
	is(t, "the step", p.World().History.Now(), now)
}
