package pool

import (
	"fmt"
	"math"
	"slices"
	"testing"

	"hackney/api"
	"hackney/conf"
	"hackney/hist"
	"hackney/picks"
	"hackney/slots"
	"hackney/word"
	"hackney/world"
)

// ops: all of them.
var ops = []int{hist.Get, hist.Put, hist.Evict, hist.Close, hist.House}

// is: it was wanted so, or a test fails.
func is[T comparable](t *testing.T, what string, got, want T) {
	t.Helper()
	if got != want {
		t.Errorf("%s: %v, wanted %v", what, got, want)
	}
}

// are: just these, in that order, or a test fails.
func are[T comparable](t *testing.T, what string, got []T, want ...T) {
	t.Helper()
	if !slices.Equal(got, want) {
		t.Errorf("%s: %v, wanted %v", what, got, want)
	}
}

// tellWorld: all that a world's parts tell.
func tellWorld(w *world.World) string {
	out := fmt.Sprintln(w.Conf, w.Now(), w.Live, w.Closed, w.Bag.List().All(), w.Slots.All())
	out += fmt.Sprintln(w.Factory.IDs(), w.Factory.Opened(), w.Factory.Closed())
	out += fmt.Sprintln(w.Book.Flagged(), w.Book.Timers(), w.Book.Len())
	for _, id := range w.Bag.IDs() {
		x, _ := w.Bag.Entry(id)
		since, _ := w.Book.Since(id)
		out += fmt.Sprintln(x, w.Book.Marked(id), since)
	}
	for thread := range api.MaxThreads {
		out += fmt.Sprintln(w.Locals.All(thread), w.Book.Held(thread))
	}
	return out + fmt.Sprintln(w.History.Now(), w.History.All())
}

// tell: all that a pool tells.
func tell(p *Pool) string {
	out := tellWorld(p.World()) + fmt.Sprintln(p.Threads(), p.Pending())
	for thread := -1; thread <= p.Threads(); thread++ {
		id, e, ok := p.Result(thread)
		out += fmt.Sprintln(p.State(thread), p.Carries(thread), id, e, ok)
	}
	return out
}

// told: it tells that of the thread's last call, or a test fails.
func told(t *testing.T, p *Pool, thread int, id uint64, e api.Errno, was bool) {
	t.Helper()
	gotID, gotErr, got := p.Result(thread)
	is(t, "the result", fmt.Sprint(gotID, gotErr, got), fmt.Sprint(id, e, was))
}

// of: a new pool.
func of(t *testing.T, c conf.Conf, threads int) *Pool {
	t.Helper()
	return scripted(t, c, threads, nil, nil)
}

// scripted: a new pool, whose factory has these scripts.
func scripted(t *testing.T, c conf.Conf, threads int, opens, proofs []bool) *Pool {
	t.Helper()
	p, e := New(c, threads, opens, proofs)
	if e != api.OK {
		t.Fatal(e)
	}
	return p
}

// calls: a call that is not refused.
func calls(t *testing.T, p *Pool, thread, op int, id, timeout uint64) {
	t.Helper()
	is(t, "the call", p.Call(thread, op, id, timeout), api.OK)
}

// ends: steps of the thread's call till it is done: how many.
func ends(t *testing.T, p *Pool, thread int) int {
	t.Helper()
	for n := range 300 {
		if !p.Step(thread) {
			return n
		}
	}
	t.Fatalf("not done, but in %s", p.State(thread))
	return 0
}

// does: a call, from its beginning to its end.
func does(t *testing.T, p *Pool, thread, op int, id, timeout uint64) {
	t.Helper()
	calls(t, p, thread, op, id, timeout)
	ends(t, p, thread)
}

// until: steps of the thread's call till it is in that state.
func until(t *testing.T, p *Pool, thread int, state string) {
	t.Helper()
	for range 300 {
		if p.State(thread) == state {
			return
		}
		p.Step(thread)
	}
	t.Fatalf("never in %s, but in %s", state, p.State(thread))
}

// path: the states through which the thread's call goes to its end.
func path(t *testing.T, p *Pool, thread int) []string {
	t.Helper()
	out := []string{p.State(thread)}
	for range 300 {
		if out[len(out)-1] == "idle" {
			return out
		}
		p.Step(thread)
		out = append(out, p.State(thread))
	}
	t.Fatalf("not done: %v", out)
	return nil
}

// last: the last n events that are recorded.
func last(p *Pool, n int) []hist.Event {
	all := p.World().History.All()
	return all[max(0, len(all)-n):]
}

// P22.1: a new pool's world is a new one, and no thread calls.
func TestNew(t *testing.T) {
	c := conf.Conf{Max: 3, MinIdle: 1, Idle: 5, Life: 6, Keep: 7, Leak: 8, Variance: 0.5}
	w, _ := world.New(c, nil, nil)
	for threads := 1; threads <= api.MaxThreads; threads++ {
		p, e := New(c, threads, nil, nil)
		is(t, "error", e, api.OK)
		is(t, "threads", p.Threads(), threads)
		is(t, "its world", tellWorld(p.World()), tellWorld(w))
		are(t, "pending", p.Pending())
		for thread := range threads {
			is(t, "state", p.State(thread), "idle")
			is(t, "carries", p.Carries(thread), 0)
			told(t, p, thread, 0, api.OK, false)
			is(t, "a step", p.Step(thread), false)
		}
	}
}

// P22.1: the number of threads is looked at first, then the configuration.
func TestNewErrors(t *testing.T) {
	well, range1, nan := conf.Conf{Max: 1}, conf.Conf{}, conf.Conf{Max: 1, Variance: math.NaN()}
	for _, x := range []struct {
		c       conf.Conf
		threads int
		want    api.Errno
	}{
		{well, 0, api.ErrRange}, {well, -1, api.ErrRange}, {well, 9, api.ErrRange},
		{well, math.MaxInt, api.ErrRange}, {well, math.MinInt, api.ErrRange},
		{range1, 1, api.ErrRange}, {nan, 1, api.ErrNaN}, {nan, 8, api.ErrNaN},
		{nan, 0, api.ErrRange}, {nan, 9, api.ErrRange}, {range1, 9, api.ErrRange},
	} {
		p, e := New(x.c, x.threads, []bool{true}, nil)
		is(t, "error", e, x.want)
		is(t, "no pool", p == nil, true)
	}
}

// P22.1: the factory's scripts are those that were handed in, which may be
// changed behind that, and are as they were.
func TestNewScripts(t *testing.T) {
	opens, proofs := []bool{false, true, false, true}, []bool{false, true}
	p := scripted(t, conf.Conf{Max: 4, Keep: 1}, 2, opens[:2], proofs[:1])
	opens[0], opens[1], proofs[0] = true, false, true
	does(t, p, 0, hist.Get, 0, 0)
	told(t, p, 0, 0, api.ErrOpen, true)
	does(t, p, 0, hist.Get, 0, 0)
	told(t, p, 0, 1, api.OK, true)
	does(t, p, 0, hist.Put, 1, 0)
	p.Tick(1)
	does(t, p, 1, hist.House, 0, 0) // it is dead
	is(t, "open", p.World().Factory.IsOpen(1), false)
	does(t, p, 0, hist.Get, 0, 0)
	told(t, p, 0, 2, api.OK, true) // behind the script all goes well
	are(t, "the opens", opens, true, false, false, true)
	are(t, "the proofs", proofs, true, true)
}

// busyPool: a pool with all kinds of calls on their way, at the tick 3: 0
// gets, and waits, 1 puts 1, 2 marks 2, 3 keeps house, 4 closes, 5 has 2, and 6
// nothing.
func busyPool(t *testing.T) *Pool {
	t.Helper()
	p := of(t, conf.Conf{Max: 3, MinIdle: 3, Idle: 2, Keep: 1}, 7)
	p.Tick(2)
	does(t, p, 1, hist.Get, 0, 4)
	does(t, p, 5, hist.Get, 0, 4)
	calls(t, p, 3, hist.House, 0, 0)
	until(t, p, 3, "publish")
	calls(t, p, 0, hist.Get, 0, 4)
	until(t, p, 0, "wait")
	calls(t, p, 1, hist.Put, 1, 0)
	p.Step(1)
	calls(t, p, 2, hist.Evict, 2, 0)
	calls(t, p, 4, hist.Close, 0, 0)
	p.Step(4)
	p.Tick(1)
	return p
}

// turns: the same turns for whatever pool.
func turns(p *Pool) {
	p.Run(picks.New(0, 4, 4, 1, 1, 2, 3, 3, 3), 60)
	p.Call(5, hist.Put, 2, 0)
	p.Call(6, hist.Get, 0, 4)
	p.Tick(9)
	p.Run(picks.New(), 200)
}

// P22.1: a clone is one of its own: it goes on as the pool would, and neither
// one is changed by what is done with the other one.
func TestClone(t *testing.T) {
	p := busyPool(t)
	other, was := p.Clone(), tell(p)
	is(t, "the clone", tell(other), was)
	turns(other)
	is(t, "the pool behind the clone's turns", tell(p), was)
	end := tell(other)
	is(t, "something was done", end == was, false)
	turns(p)
	is(t, "the pool behind the same turns", tell(p), end)
	is(t, "the clone behind the pool's turns", tell(other), end)
	told(t, p.Clone(), 5, 2, api.OK, true)
}

// P22.1: a clone's threads have calls of their own.
func TestCloneCalls(t *testing.T) {
	p := of(t, conf.Conf{Max: 1}, 2)
	other := p.Clone()
	calls(t, p, 0, hist.Get, 0, 4)
	is(t, "the clone's", other.State(0), "idle")
	are(t, "the clone's", other.Pending())
	calls(t, other, 0, hist.House, 0, 0)
	calls(t, other, 1, hist.Close, 0, 0)
	are(t, "the pool's", p.Pending(), 0)
	is(t, "steps", ends(t, p, 0), 6)
	told(t, p, 0, 1, api.OK, true)
	told(t, other, 0, 0, api.OK, false)
}

// P22.1: its world is a clone: what is done with it doesn't touch the pool.
func TestWorld(t *testing.T) {
	p := busyPool(t)
	was, w := tell(p), p.World()
	w.Tick(5)
	w.Closed, w.Conf.Max = true, 1
	w.Grow()
	w.Shrink()
	w.Shrink()
	w.History.Advance()
	w.History.Add(0, hist.Point, hist.Get, 7, api.OK)
	w.Bag.Enter(99, word.Free, 0)
	w.Bag.Publish(99)
	w.Bag.Unlist(1)
	w.Bag.Proved(1, 99)
	x, _ := w.Bag.Load(2)
	w.Remove(2, x, 0, hist.Get)
	w.Slots.Fill(2)
	w.Slots.Take(0)
	w.Slots.Park(6, 7)
	w.Locals.Put(0, 5)
	w.Lease(3, 0)
	w.Book.Mark(2, 5)
	w.Book.Leaks(99)
	w.Factory.Open()
	w.Factory.Close(2)
	is(t, "the pool", tell(p), was)
	is(t, "another world", tellWorld(p.World()) == tellWorld(w), false)
	turns(p)
	is(t, "the other world", w.Now(), 8)
}

// P22.1: ticks are the world's.
func TestTick(t *testing.T) {
	p := of(t, conf.Conf{Max: 1}, 1)
	p.Tick(3)
	p.Tick(0)
	is(t, "now", p.World().Now(), 3)
	p.Tick(4)
	is(t, "now", p.World().Now(), 7)
	is(t, "steps", p.World().History.Now(), 0)
	p.Tick(math.MaxUint64)
	is(t, "now", p.World().Now(), api.MaxTick)
}

// P22.1: pending is who has a call on its way, rising.
func TestPending(t *testing.T) {
	p := of(t, conf.Conf{Max: 1}, 8)
	for _, thread := range []int{5, 0, 7, 2} {
		calls(t, p, thread, hist.Get, 0, 9)
	}
	are(t, "pending", p.Pending(), 0, 2, 5, 7)
	ends(t, p, 5)
	are(t, "pending", p.Pending(), 0, 2, 7)
	p.Pending()[0] = 6
	are(t, "pending", p.Pending(), 0, 2, 7)
}

// P22.2: a call that begins is recorded, and does nothing yet; its id is that
// of who puts or marks it alone.
func TestCall(t *testing.T) {
	for _, op := range ops {
		for _, id := range []uint64{0, 7, math.MaxUint64} {
			p := of(t, conf.Conf{Max: 1}, 3)
			calls(t, p, 0, hist.Get, 0, 0)
			p.Step(0)
			calls(t, p, 2, op, id, 5)
			want := hist.Event{Step: 1, Thread: 2, Kind: hist.Call, Op: op}
			state := "start"
			switch op {
			case hist.Put:
				want.ID = id
			case hist.Evict:
				want.ID, state = id, "mark"
			}
			are(t, "recorded", p.World().History.All()[1:], want)
			is(t, "steps", p.World().History.Now(), 1)
			is(t, "state", p.State(2), state)
			is(t, "carries", p.Carries(2), 0)
			is(t, "closed", p.World().Closed, false)
			are(t, "pending", p.Pending(), 0, 2)
			told(t, p, 2, 0, api.OK, false)
		}
	}
}

// P22.2: no such thread, and no such op, are looked for ahead of a call that is
// on its way; a call that is refused changes nothing.
func TestCallErrors(t *testing.T) {
	p := of(t, conf.Conf{Max: 1}, 3)
	calls(t, p, 1, hist.Get, 0, 5)
	until(t, p, 1, "publish")
	calls(t, p, 2, hist.Evict, 1, 0)
	was := tell(p)
	for _, thread := range []int{-1, 3, 7, 8, math.MaxInt, math.MinInt} {
		for _, op := range []int{-1, 0, 1, 2, 3, 4, 5} {
			is(t, "no such thread", p.Call(thread, op, 1, 5), api.ErrRange)
		}
	}
	for thread := range 3 {
		for _, op := range []int{-1, 5, math.MaxInt, math.MinInt} {
			is(t, "no such op", p.Call(thread, op, 1, 5), api.ErrRange)
		}
	}
	for _, thread := range []int{1, 2} {
		for _, op := range ops {
			is(t, "a call is on its way", p.Call(thread, op, 1, 5), api.ErrBusy)
		}
	}
	is(t, "the pool", tell(p), was)
	is(t, "steps", ends(t, p, 1), 1)
	told(t, p, 1, 1, api.OK, true)
	calls(t, p, 1, hist.Put, 1, 0)
}

// P22.2: of a getting the deadline is as many ticks behind the call, 2^60 at
// most.
func TestDeadline(t *testing.T) {
	for _, x := range []struct{ now, timeout, want uint64 }{
		{0, 0, 0}, {0, 5, 5}, {3, 5, 8}, {3, 0, 3},
		{api.MaxTick - 3, 3, api.MaxTick}, {api.MaxTick - 3, 4, api.MaxTick}, {api.MaxTick - 3, 2, api.MaxTick - 1},
		{3, math.MaxUint64, api.MaxTick}, {3, math.MaxUint64 - 2, api.MaxTick}, {api.MaxTick, 1, api.MaxTick},
	} {
		p := of(t, conf.Conf{Max: 1}, 2)
		p.Tick(x.now)
		does(t, p, 0, hist.Get, 0, 0)
		calls(t, p, 1, hist.Get, 9, x.timeout)
		if x.now < 9 {
			p.Tick(1) // behind the call it stays as it is
		}
		until(t, p, 1, "wait")
		are(t, "the slots", p.World().Slots.All(), slots.Slot{Thread: 1, Deadline: x.want})
	}
}

// P22.2: a getting isn't sent away ahead of its deadline, and is behind it.
func TestTimeout(t *testing.T) {
	p := of(t, conf.Conf{Max: 1}, 2)
	does(t, p, 0, hist.Get, 0, 0)
	p.Tick(3)
	calls(t, p, 1, hist.Get, 0, 5)
	for range 5 {
		p.Run(picks.New(), 100)
		is(t, "state", p.State(1), "wait")
		p.Tick(1)
	}
	is(t, "steps", ends(t, p, 1), 2)
	told(t, p, 1, 0, api.ErrTimeout, true)
	are(t, "recorded", last(p, 1), hist.Event{Step: p.World().History.Now(), Thread: 1, Kind: hist.Answer, Op: hist.Get, Err: api.ErrTimeout})
}

// P22.2: nothing is done by who is none, or has no call on its way.
func TestStepOfNone(t *testing.T) {
	p := of(t, conf.Conf{Max: 1}, 3)
	calls(t, p, 1, hist.Get, 0, 5)
	p.Step(1)
	was := tell(p)
	for _, thread := range []int{0, 2, 3, -1, 8, math.MaxInt, math.MinInt} {
		is(t, "a step", p.Step(thread), false)
	}
	is(t, "the pool", tell(p), was)
	ends(t, p, 1)
	was = tell(p)
	is(t, "a step of what is done", p.Step(1), false)
	is(t, "the pool", tell(p), was)
}

// P22.2: each step has a number; the call does one step of its own; the answer
// is recorded with the last one.
func TestStep(t *testing.T) {
	p := of(t, conf.Conf{Max: 1}, 2)
	calls(t, p, 0, hist.Get, 0, 5)
	calls(t, p, 1, hist.Get, 0, 5)
	for n, state := range []string{"near", "snap", "grow", "open", "publish", "idle"} {
		is(t, "a step", p.Step(0), true)
		is(t, "its number", p.World().History.Now(), uint64(n+1))
		is(t, "state", p.State(0), state)
		is(t, "the other one's", p.State(1), "start")
	}
	are(t, "recorded", last(p, 2),
		hist.Event{Step: 6, Thread: 0, Kind: hist.Point, Op: hist.Get, ID: 1},
		hist.Event{Step: 6, Thread: 0, Kind: hist.Answer, Op: hist.Get, ID: 1})
	is(t, "all", len(p.World().History.All()), 4)
	told(t, p, 0, 1, api.OK, true)
}

// answered: the thread's call is done, with that as its answer, and its result.
func answered(t *testing.T, p *Pool, thread, op int, id uint64, e api.Errno) {
	t.Helper()
	ends(t, p, thread)
	are(t, "the answer", last(p, 1), hist.Event{
		Step: p.World().History.Now(), Thread: thread, Kind: hist.Answer, Op: op, ID: id, Err: e,
	})
	told(t, p, thread, id, e, true)
	is(t, "state", p.State(thread), "idle")
}

// P22.2, P22.3: of each op its answer.
func TestAnswers(t *testing.T) {
	p := of(t, conf.Conf{Max: 2, MinIdle: 1}, 4)
	for _, x := range []struct {
		thread, op int
		asked, id  uint64
		want       api.Errno
	}{
		{0, hist.House, 9, 0, api.OK},
		{0, hist.Get, 9, 1, api.OK},
		{1, hist.Get, 0, 2, api.OK},
		{2, hist.Get, 0, 0, api.ErrTimeout},
		{1, hist.Evict, 1, 1, api.ErrNotHeld},
		{1, hist.Put, 1, 1, api.ErrNotHeld},
		{3, hist.Put, 99, 99, api.ErrNotHeld},
		{3, hist.Evict, 0, 0, api.ErrNotHeld},
		{0, hist.Put, 1, 1, api.OK},
		{0, hist.Put, 1, 1, api.ErrNotHeld},
		{1, hist.Evict, 2, 2, api.OK},
		{1, hist.Evict, 2, 2, api.OK},
		{3, hist.Get, 0, 1, api.OK},
		{2, hist.Close, 9, 0, api.OK},
		{3, hist.Close, 9, 0, api.ErrClosed},
		{2, hist.Get, 9, 0, api.ErrClosed},
		{3, hist.Put, 1, 1, api.OK},
		{1, hist.Put, 2, 2, api.OK},
		{2, hist.House, 9, 0, api.OK},
	} {
		calls(t, p, x.thread, x.op, x.asked, 0)
		answered(t, p, x.thread, x.op, x.id, x.want)
	}
	w := p.World()
	are(t, "open", w.Factory.IDs())
	is(t, "live", w.Live, 0)
	is(t, "leases", w.Book.Len(), 0)
}

// P22.2: where none can be opened that is the answer.
func TestNotOpened(t *testing.T) {
	p := scripted(t, conf.Conf{Max: 1}, 1, []bool{false}, nil)
	calls(t, p, 0, hist.Get, 0, 5)
	answered(t, p, 0, hist.Get, 0, api.ErrOpen)
}

// P22.2, P22.3: a marking is in the state mark, and done by its one step, by
// the thread that calls it.
func TestMarking(t *testing.T) {
	p := of(t, conf.Conf{Max: 2}, 3)
	does(t, p, 2, hist.Get, 0, 5)
	calls(t, p, 2, hist.Evict, 1, 0)
	calls(t, p, 0, hist.Evict, 1, 0)
	is(t, "state", p.State(2), "mark")
	is(t, "marked ahead of its step", p.World().Book.Marked(1), false)
	is(t, "a step", p.Step(0), true)
	is(t, "marked by another one", p.World().Book.Marked(1), false)
	told(t, p, 0, 1, api.ErrNotHeld, true)
	are(t, "pending", p.Pending(), 2)
	is(t, "a step", p.Step(2), true)
	is(t, "marked", p.World().Book.Marked(1), true)
	told(t, p, 2, 1, api.OK, true)
	are(t, "recorded", last(p, 4),
		hist.Event{Step: 7, Thread: 0, Kind: hist.Point, Op: hist.Evict, ID: 1, Err: api.ErrNotHeld},
		hist.Event{Step: 7, Thread: 0, Kind: hist.Answer, Op: hist.Evict, ID: 1, Err: api.ErrNotHeld},
		hist.Event{Step: 8, Thread: 2, Kind: hist.Point, Op: hist.Evict, ID: 1},
		hist.Event{Step: 8, Thread: 2, Kind: hist.Answer, Op: hist.Evict, ID: 1})
	is(t, "a step more", p.Step(2), false)
}

// P22.2, P22.3: the states of each op's call, which end in idle.
func TestStates(t *testing.T) {
	p := of(t, conf.Conf{Max: 2, MinIdle: 1}, 2)
	for _, x := range []struct {
		op     int
		states []string
	}{
		{hist.House, []string{"start", "refill", "open", "publish", "give", "refill", "leaks", "idle"}},
		{hist.Get, []string{"start", "near", "snap", "load", "swap", "idle"}},
		{hist.Evict, []string{"mark", "idle"}},
		{hist.Put, []string{"start", "give", "give", "give", "give", "idle"}},
		{hist.Put, []string{"start", "idle"}},
		{hist.Close, []string{"start", "snap", "idle"}},
		{hist.Close, []string{"start", "idle"}},
		{hist.Get, []string{"start", "idle"}},
	} {
		calls(t, p, 1, x.op, 1, 5)
		are(t, "the states", path(t, p, 1), x.states...)
	}
}

// P22.3: a state is none of no such thread.
func TestStateOfNone(t *testing.T) {
	p := busyPool(t)
	for _, thread := range []int{-1, 7, 8, math.MaxInt, math.MinInt} {
		is(t, "state", p.State(thread), "")
		is(t, "carries", p.Carries(thread), 0)
		told(t, p, thread, 0, api.OK, false)
	}
	is(t, "idle", p.State(5), "idle")
	is(t, "idle", p.State(6), "idle")
}

// P22.3: carried is what the thread's call carries.
func TestCarries(t *testing.T) {
	p := of(t, conf.Conf{Max: 4, MinIdle: 2, Keep: 1}, 5)
	calls(t, p, 0, hist.Get, 0, 5)
	until(t, p, 0, "publish")
	is(t, "a getting", p.Carries(0), 1)
	ends(t, p, 0)
	is(t, "a getting that is done", p.Carries(0), 0)
	calls(t, p, 0, hist.Put, 1, 0)
	is(t, "a putting that has begun", p.Carries(0), 0)
	p.Step(0)
	is(t, "a putting", p.Carries(0), 1)
	is(t, "another one's", p.Carries(1), 0)
	ends(t, p, 0)
	calls(t, p, 1, hist.House, 0, 0)
	p.Tick(1)
	until(t, p, 1, "prove")
	is(t, "a round that proves", p.Carries(1), 1)
	until(t, p, 1, "publish")
	is(t, "a round that fills up", p.Carries(1), 2)
	ends(t, p, 1)
	calls(t, p, 3, hist.Close, 0, 0)
	until(t, p, 3, "give")
	is(t, "a closing", p.Carries(3), 1)
	p.Step(3)
	is(t, "a closing that has closed it", p.Carries(3), 0)
	until(t, p, 3, "give")
	calls(t, p, 4, hist.Evict, 2, 0)
	is(t, "a marking", p.Carries(4), 0)
}

// P22.3: the result is that of the last call that was done, also while the
// next one is on its way.
func TestResult(t *testing.T) {
	p := of(t, conf.Conf{Max: 2}, 2)
	calls(t, p, 0, hist.Get, 0, 5)
	p.Step(0)
	told(t, p, 0, 0, api.OK, false)
	ends(t, p, 0)
	told(t, p, 0, 1, api.OK, true)
	told(t, p, 1, 0, api.OK, false)
	calls(t, p, 0, hist.Put, 7, 0)
	told(t, p, 0, 1, api.OK, true)
	ends(t, p, 0)
	told(t, p, 0, 7, api.ErrNotHeld, true)
	calls(t, p, 0, hist.House, 0, 0)
	p.Step(0)
	told(t, p, 0, 7, api.ErrNotHeld, true)
	ends(t, p, 0)
	told(t, p, 0, 0, api.OK, true)
}

// P22.3: whose turn it is is told by the picks, of as many as there are
// threads; a turn of who has nothing to do is one, too.
func TestRun(t *testing.T) {
	p := of(t, conf.Conf{Max: 2}, 3)
	calls(t, p, 0, hist.Get, 0, 5)
	calls(t, p, 2, hist.Get, 0, 5)
	q := picks.New(0, 0, 3, 2, 1, 1, -1, 9)
	is(t, "true", p.Run(q, 6), 4) // 0, 0, 0, 2, 1, 1
	is(t, "left", q.Left(), 2)
	is(t, "state", p.State(0), "grow")
	is(t, "state", p.State(2), "near")
	is(t, "steps", p.World().History.Now(), 4)
	is(t, "true", p.Run(q, 2), 2) // 2, 0
	is(t, "left", q.Left(), 0)
	is(t, "state", p.State(0), "open")
	is(t, "state", p.State(2), "snap")
	is(t, "true", p.Run(q, 3), 2) // behind the script each in turn
	is(t, "true", p.Run(q, 1), 1) // and on from there: it is 0's
	told(t, p, 0, 1, api.OK, true)
	is(t, "state", p.State(2), "grow")
	is(t, "true", p.Run(q, 20), 3)
	told(t, p, 2, 2, api.OK, true)
	is(t, "true", p.Run(q, 20), 0)
}

// waiting: a pool of two threads, of which 1 waits till the end of all ticks.
func waiting(t *testing.T) *Pool {
	t.Helper()
	p := of(t, conf.Conf{Max: 1}, 2)
	does(t, p, 0, hist.Get, 0, 0)
	calls(t, p, 1, hist.Get, 0, api.MaxTick)
	until(t, p, 1, "wait")
	return p
}

// P22.3: so many times, no less than none, and no more than 100000.
func TestRunBounds(t *testing.T) {
	p := waiting(t)
	was := tell(p)
	for _, k := range []int{0, -1, math.MinInt} {
		q := picks.New(1)
		is(t, "true", p.Run(q, k), 0)
		is(t, "left", q.Left(), 1)
	}
	is(t, "the pool", tell(p), was)
	for _, x := range []struct{ k, want int }{
		{1, 1}, {7, 7}, {99999, 99999}, {100000, 100000}, {100001, 100000}, {math.MaxInt, 100000},
	} {
		q := picks.New(slices.Repeat([]int{1}, 100003)...)
		before := p.World().History.Now()
		is(t, "true", p.Run(q, x.k), x.want)
		is(t, "left", q.Left(), 100003-x.want)
		is(t, "steps", p.World().History.Now()-before, uint64(x.want))
	}
}

// P22.3: of nil picks it is nobody's turn.
func TestRunOfNilPicks(t *testing.T) {
	p := waiting(t)
	calls(t, p, 0, hist.Put, 1, 0)
	was := tell(p)
	for _, k := range []int{-1, 0, 1, 200000} {
		is(t, "true", p.Run(nil, k), 0)
	}
	is(t, "the pool", tell(p), was)
}

// P22.3: of a nil pool.
func TestNil(t *testing.T) {
	var p *Pool
	q := picks.New(1, 2)
	is(t, "clone", p.Clone() == nil, true)
	is(t, "world", p.World() == nil, true)
	is(t, "threads", p.Threads(), 0)
	is(t, "call", p.Call(0, hist.Get, 0, 5), api.ErrNil)
	is(t, "call of no thread, nor op", p.Call(-1, 9, 0, 5), api.ErrNil)
	is(t, "step", p.Step(0), false)
	is(t, "run", p.Run(q, 5), 0)
	is(t, "left", q.Left(), 2)
	is(t, "run", p.Run(nil, 5), 0)
	is(t, "state", p.State(0), "")
	is(t, "carries", p.Carries(0), 0)
	is(t, "pending", len(p.Pending()), 0)
	told(t, p, 0, 0, api.OK, false)
	p.Tick(3)
}
