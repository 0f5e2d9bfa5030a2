package mclose

import (
	"fmt"
	"math/rand"
	"slices"
	"testing"

	"hackney/api"
	"hackney/conf"
	"hackney/give"
	"hackney/hist"
	"hackney/mget"
	"hackney/mhouse"
	"hackney/mput"
	"hackney/slots"
	"hackney/word"
	"hackney/world"
)

// is: it was wanted so, or a test fails.
func is[T comparable](t *testing.T, what string, got, want T) {
	t.Helper()
	if got != want {
		t.Errorf("%s: %v, wanted %v", what, got, want)
	}
}

// are: just these, in that order, or a test fails.
func are[T comparable](t *testing.T, what string, got []T, want ...T) {
	t.Helper()
	if !slices.Equal(got, want) {
		t.Errorf("%s: %v, wanted %v", what, got, want)
	}
}

// tell: a world's parts, each as a text.
func tell(w *world.World) map[string]string {
	entries, lists, leases := "", "", fmt.Sprint(w.Book.Flagged(), w.Book.Timers(), w.Book.Len())
	for _, id := range w.Bag.IDs() {
		x, _ := w.Bag.Entry(id)
		entries += fmt.Sprint(x)
	}
	for id := range uint64(20) {
		since, _ := w.Book.Since(id)
		leases += fmt.Sprint(w.Book.Marked(id), since)
	}
	for thread := range api.MaxThreads {
		lists += fmt.Sprint(w.Locals.All(thread))
		leases += fmt.Sprint(w.Book.Held(thread))
	}
	return map[string]string{
		"bag":     entries,
		"list":    fmt.Sprint(w.Bag.List().All()),
		"locals":  lists,
		"slots":   fmt.Sprint(w.Slots.All()),
		"book":    leases,
		"factory": fmt.Sprint(w.Factory.IDs(), w.Factory.Opened(), w.Factory.Closed()),
		"history": fmt.Sprint(w.History.Now(), w.History.All()),
		"live":    fmt.Sprint(w.Live),
		"closed":  fmt.Sprint(w.Closed),
		"rest":    fmt.Sprint(w.Conf, w.Now()),
	}
}

// changed: which parts aren't as they were, by name, in order.
func changed(w *world.World, was map[string]string) []string {
	var out []string
	for part, now := range tell(w) {
		if was[part] != now {
			out = append(out, part)
		}
	}
	slices.Sort(out)
	return out
}

// steps: a step, behind which it is in that state, carries that, and has not
// ended with an error, and just these parts of the world aren't as they were.
func steps(t *testing.T, w *world.World, c Close, state string, carries uint64, parts ...string) Close {
	t.Helper()
	was, self := tell(w), fmt.Sprintf("%+v", c)
	next := c.Step(w)
	is(t, "behind "+c.state, next.State(), state)
	is(t, "done", next.Done(), state == "done")
	is(t, "its error", next.Err(), api.OK)
	is(t, "carries", next.Carries(), carries)
	is(t, "the closing that it was", fmt.Sprintf("%+v", c), self)
	are(t, "changed by "+c.state, changed(w, was), parts...)
	return next
}

// begins: the first step, and what it records.
func begins(t *testing.T, w *world.World) Close {
	t.Helper()
	before := len(w.History.All())
	c := steps(t, w, Begin(6), "snap", 0, "closed", "history")
	is(t, "closed", w.Closed, true)
	are(t, "recorded", w.History.All()[before:], event(hist.Point, 0, api.OK))
	return c
}

// closes: the three steps in which what is reserved is closed; the last one
// leads to that state.
func closes(t *testing.T, w *world.World, c Close, state string) Close {
	t.Helper()
	id, before := c.Carries(), len(w.History.All())
	c = steps(t, w, c, "give", 0, "bag", "factory", "history")
	are(t, "recorded", w.History.All()[before:], event(hist.Retire, id, api.OK))
	is(t, "its word", stateOf(w, id), word.Removed)
	is(t, "open", w.Factory.IsOpen(id), false)
	c = steps(t, w, c, "give", 0, "list")
	is(t, "its place in the list", w.Bag.List().Index(id), -1)
	return steps(t, w, c, state, 0, "live")
}

// until: where its steps lead, at most to that state.
func until(t *testing.T, w *world.World, c Close, state string) Close {
	t.Helper()
	for range 300 {
		if c.State() == state {
			return c
		}
		c = c.Step(w)
	}
	t.Fatalf("never in %s, but in %s", state, c.State())
	return c
}

// path: the states through which a closing of the thread 6 goes to its end.
func path(t *testing.T, w *world.World) []string {
	t.Helper()
	c := Begin(6)
	out := []string{c.State()}
	for range 300 {
		if c.Done() {
			return out
		}
		c = c.Step(w)
		out = append(out, c.State())
	}
	t.Fatalf("not done: %v", out)
	return nil
}

// of: a world at the tick 7 and the step 1, with ids that are in these states
// since the tick 0, all listed, and live.
func of(t *testing.T, states ...int) *world.World {
	t.Helper()
	w, e := world.New(conf.Conf{Max: api.MaxSize, MinIdle: 2}, nil, nil)
	if e != api.OK {
		t.Fatal(e)
	}
	for _, state := range states {
		w.Grow()
		id, _ := w.Factory.Open()
		w.Bag.Enter(id, state, w.Now())
		w.Publish(id)
	}
	w.Tick(7)
	w.History.Advance()
	return w
}

// event: what is recorded of the thread 6 at the step 1.
func event(kind int, id uint64, e api.Errno) hist.Event {
	return hist.Event{Step: 1, Thread: 6, Kind: kind, Op: hist.Close, ID: id, Err: e}
}

// swapTo: the id's word goes on to that state.
func swapTo(t *testing.T, w *world.World, id uint64, state int) {
	t.Helper()
	x, _ := w.Bag.Load(id)
	if _, ok := w.Bag.Swap(id, x, state, w.Now()); !ok {
		t.Fatalf("%d didn't go on to %d", id, state)
	}
}

// stateOf: the state of an id's word.
func stateOf(w *world.World, id uint64) int {
	x, ok := w.Bag.Load(id)
	if !ok {
		return -1
	}
	return x.State()
}

// P21.1: it begins in the state start, and carries nothing.
func TestBegin(t *testing.T) {
	for _, thread := range []int{0, 7, -1, 8} {
		c := Begin(thread)
		is(t, "state", c.State(), "start")
		is(t, "done", c.Done(), false)
		is(t, "error", c.Err(), api.OK)
		is(t, "carries", c.Carries(), 0)
	}
}

// P21.1: of a nil world it is the same, in whatever state.
func TestOfNil(t *testing.T) {
	w := of(t, word.Free, word.InUse, word.Free)
	first := Begin(0)
	for range 20 {
		is(t, "of a nil world", fmt.Sprintf("%+v", first.Step(nil)), fmt.Sprintf("%+v", first))
		first = first.Step(w)
	}
	is(t, "done", first.Done(), true)
	second := Begin(1).Step(w)
	is(t, "of a nil world", fmt.Sprintf("%+v", second.Step(nil)), fmt.Sprintf("%+v", second))
	is(t, "nothing", Close{}.Step(nil).State(), "")
	steps(t, w, Close{}, "", 0)
}

// P21.1: what is free is reserved, and closed, by the thread and Close.
func TestClose(t *testing.T) {
	w := of(t, word.Free)
	c := begins(t, w)
	c = steps(t, w, c, "load", 0)
	c = steps(t, w, c, "swap", 0)
	c = steps(t, w, c, "give", 1, "bag")
	x, _ := w.Bag.Load(1)
	is(t, "its word", x, word.Of(word.Reserved, 1))
	c = closes(t, w, c, "done")
	x, _ = w.Bag.Load(1)
	is(t, "its word", x, word.Of(word.Removed, 2))
	is(t, "live", w.Live, 0)
	is(t, "a step more", fmt.Sprintf("%+v", steps(t, w, c, "done", 0)), fmt.Sprintf("%+v", c))
}

// P21.1: where nothing is listed it is done once it has looked.
func TestOfNone(t *testing.T) {
	w := of(t)
	c := begins(t, w)
	steps(t, w, c, "done", 0)
	w = of(t)
	w.Factory.Open()
	w.Bag.Enter(1, word.Free, 0) // free, but not listed
	c = begins(t, w)
	steps(t, w, c, "done", 0)
}

// P21.1, P21.2: of what is closed already, it ends with ErrClosed, and does
// nothing, but that it is recorded.
func TestClosedAlready(t *testing.T) {
	w := of(t, word.Free, word.InUse)
	w.Closed = true
	w.Slots.Park(2, 9)
	was, begun := tell(w), Begin(6)
	c := begun.Step(w)
	is(t, "state", c.State(), "done")
	is(t, "done", c.Done(), true)
	is(t, "error", c.Err(), api.ErrClosed)
	is(t, "carries", c.Carries(), 0)
	is(t, "the one that it was", begun.Err(), api.OK)
	are(t, "changed", changed(w, was), "history")
	are(t, "recorded", w.History.All(), event(hist.Point, 0, api.ErrClosed))
	was = tell(w)
	c = c.Step(w)
	is(t, "error", c.Err(), api.ErrClosed)
	are(t, "changed by a step more", changed(w, was))
}

// P21.2: a second one leaves the first one to it, wherever that is.
func TestSecond(t *testing.T) {
	for at := 1; at < 14; at++ {
		w := of(t, word.Free, word.InUse, word.Free)
		first := Begin(6)
		for range at {
			first = first.Step(w)
		}
		was := tell(w)
		second := Begin(3).Step(w)
		is(t, "the second one's error", second.Err(), api.ErrClosed)
		is(t, "the second one is done", second.Done(), true)
		are(t, "changed by the second one", changed(w, was), "history")
		first = until(t, w, first, "done")
		is(t, "the first one's error", first.Err(), api.OK)
		are(t, "listed", w.Bag.List().All(), 2)
		is(t, "live", w.Live, 1)
	}
}

// P21.1: what isn't free is passed over; each that is listed is looked at in
// turn, one step each.
func TestPassedOver(t *testing.T) {
	w := of(t, word.InUse, word.Reserved, word.Removed)
	are(t, "its states", path(t, w), "start", "snap", "load", "load", "load", "done")
	are(t, "listed", w.Bag.List().All(), 1, 2, 3)
	is(t, "live", w.Live, 3)
	w = of(t, word.Free, word.Reserved, word.Free, word.InUse, word.Free)
	w.Bag.Unlist(1)
	w.Bag.Publish(1) // behind the others now
	c := begins(t, w)
	for _, id := range []uint64{3, 5, 1} {
		c = until(t, w, c, "swap")
		next := "load"
		if id == 1 {
			next = "done"
		}
		c = closes(t, w, steps(t, w, c, "give", id, "bag"), next)
	}
	are(t, "listed", w.Bag.List().All(), 2, 4)
	are(t, "open", w.Factory.IDs(), 2, 4)
	is(t, "live", w.Live, 2)
}

// P21.1: what is closed once it is looked at is what was listed then: neither
// ahead of that nor behind.
func TestSnap(t *testing.T) {
	w := of(t, word.Free, word.Free)
	c := begins(t, w)
	w.Factory.Open()
	w.Bag.Enter(3, word.Free, 0)
	w.Bag.Publish(3) // ahead of it
	c = steps(t, w, c, "load", 0)
	w.Factory.Open()
	w.Bag.Enter(4, word.Free, 0)
	w.Bag.Publish(4) // behind it
	w.Bag.Unlist(2)
	until(t, w, c, "done")
	are(t, "open", w.Factory.IDs(), 4)
	are(t, "listed", w.Bag.List().All(), 4)
}

// P21.1: where another one was ahead it looks at the id once more.
func TestTakenSince(t *testing.T) {
	w := of(t, word.Free, word.Free)
	c := until(t, w, begins(t, w), "swap")
	swapTo(t, w, 1, word.InUse)
	taken := steps(t, w, c, "load", 0)
	taken = steps(t, w, taken, "load", 0) // of the second one
	taken = steps(t, w, taken, "swap", 0)
	steps(t, w, taken, "give", 2, "bag")
	w = of(t, word.Free, word.Free)
	c = until(t, w, begins(t, w), "swap")
	swapTo(t, w, 1, word.InUse)
	swapTo(t, w, 1, word.Free)
	c = steps(t, w, c, "load", 0) // though it is free: its version isn't that
	c = steps(t, w, c, "swap", 0)
	c = steps(t, w, c, "give", 1, "bag")
	x, _ := w.Bag.Load(1)
	is(t, "its word", x, word.Of(word.Reserved, 3))
	closes(t, w, c, "load")
}

// P21.1: what was taken and let go while another id was closed is looked at as
// it is then.
func TestFreedSince(t *testing.T) {
	w := of(t, word.Free, word.InUse)
	c := until(t, w, begins(t, w), "give")
	swapTo(t, w, 2, word.Free)
	c = closes(t, w, c, "load")
	c = steps(t, w, c, "swap", 0)
	c = steps(t, w, c, "give", 2, "bag")
	closes(t, w, c, "done")
}

// P21.1: with what is closed its mark is gone; no one who waits is handed it.
func TestMarkedAndWaitedFor(t *testing.T) {
	w := of(t, word.Free)
	w.Lease(1, 3)
	w.Book.Mark(1, 3)
	w.Book.End(1, 3)
	w.Slots.Park(2, 99)
	c := until(t, w, begins(t, w), "give")
	c = steps(t, w, c, "give", 0, "bag", "book", "factory", "history")
	is(t, "marked", w.Book.Marked(1), false)
	c = steps(t, w, c, "give", 0, "list")
	steps(t, w, c, "done", 0, "live")
	are(t, "who waits", w.Slots.All(), slots.Slot{Thread: 2, Deadline: 99})
}

// P21.1: what isn't Reserved any more isn't closed, but the giving goes on.
func TestOthersMeddle(t *testing.T) {
	for _, state := range []int{word.InUse, word.Free, word.Removed} {
		w := of(t, word.Free, word.InUse)
		c := until(t, w, begins(t, w), "give")
		swapTo(t, w, 1, state)
		c = steps(t, w, c, "give", 0)
		c = steps(t, w, c, "give", 0, "list")
		c = steps(t, w, c, "load", 0, "live")
		steps(t, w, c, "done", 0)
		is(t, "its state", stateOf(w, 1), state)
		is(t, "open", w.Factory.IsOpen(1), true)
	}
}

// P21.1: carried is what it is about to close, in no other state.
func TestCarries(t *testing.T) {
	for _, state := range []string{"start", "snap", "load", "swap", "give", "done", ""} {
		for _, of := range []string{"stash", "again", "back", "close", "unlist", "shrink", "done"} {
			c := Close{id: 5, state: state, giving: give.Give{ID: 5, State: of}}
			want := uint64(0)
			if state == "give" && of == "close" {
				want = 5
			}
			is(t, "of "+state+", "+of, c.Carries(), want)
		}
	}
}

// P21.1: of no thread's number it does what it does of any.
func TestOfNoThread(t *testing.T) {
	for _, thread := range []int{-1, 8} {
		w := of(t, word.Free)
		until(t, w, Begin(thread), "done")
		are(t, "listed", w.Bag.List().All())
		are(t, "recorded", w.History.All(),
			hist.Event{Step: 1, Thread: thread, Kind: hist.Point, Op: hist.Close},
			hist.Event{Step: 1, Thread: thread, Kind: hist.Retire, Op: hist.Close, ID: 1})
	}
}

// P21.1: a closing is a value: of one that was kept a step does the same in a
// clone.
func TestKept(t *testing.T) {
	w := of(t, word.Free, word.InUse, word.Free)
	c := Begin(6)
	for range 20 {
		was, one, other := tell(w), w.Clone(), w.Clone()
		is(t, "in two clones", fmt.Sprintf("%+v", c.Step(one)), fmt.Sprintf("%+v", c.Step(other)))
		are(t, "the clones", changed(one, tell(other)))
		are(t, "the world itself", changed(w, was))
		c = c.Step(w)
	}
	is(t, "done", c.Done(), true)
}

// anyWorld: some world at some tick.
func anyWorld(t *testing.T, r *rand.Rand) *world.World {
	w := of(t)
	for range r.Intn(9) {
		w.Grow()
		id, _ := w.Factory.Open()
		w.Bag.Enter(id, []int{word.Free, word.Free, word.InUse, word.Reserved, word.Removed}[r.Intn(5)], w.Now())
		if r.Intn(6) > 0 {
			w.Publish(id)
		}
	}
	if r.Intn(3) == 0 {
		w.Slots.Park(2, 9)
	}
	return w
}

// P21.1, P21.2: a closing that has the world for itself closes all that is
// listed and free, in order, and nothing else.
func TestAlone(t *testing.T) {
	r := rand.New(rand.NewSource(21))
	for range 3000 {
		w := anyWorld(t, r)
		m := w.Clone()
		events := []hist.Event{event(hist.Point, 0, api.OK)}
		for _, id := range m.Bag.List().All() {
			if stateOf(m, id) == word.Free {
				swapTo(t, m, id, word.Reserved)
				swapTo(t, m, id, word.Removed)
				m.Bag.Unlist(id)
				m.Factory.Close(id)
				m.Shrink()
				events = append(events, event(hist.Retire, id, api.OK))
			}
		}
		until(t, w, Begin(6), "done")
		are(t, "recorded", w.History.All(), events...)
		are(t, "unlike the model", changed(w, tell(m)), "closed", "history")
		is(t, "closed", w.Closed, true)
		for _, id := range w.Bag.List().All() {
			is(t, "free yet", stateOf(w, id) == word.Free, false)
		}
	}
}

// run: threads that get, put, keep house and close, in a world.
type run struct {
	t      *testing.T
	r      *rand.Rand
	w      *world.World
	gets   map[int]mget.Get // what is under way
	puts   map[int]mput.Put
	houses map[int]mhouse.House
	closes map[int]Close
}

// begin: a call of the thread.
func (x *run) begin(thread int) {
	held := x.w.Book.Held(thread)
	switch k := x.r.Intn(40); {
	case k == 0:
		x.closes[thread] = Begin(thread)
	case k < 6:
		x.houses[thread] = mhouse.Begin(thread)
	case k < 24 && len(held) > 0:
		x.puts[thread] = mput.Begin(thread, held[x.r.Intn(len(held))])
	default:
		x.gets[thread] = mget.Begin(thread, x.w.Now()+uint64(x.r.Intn(5)))
	}
}

// stepOf: a step of one of these, which is gone once it is done; false, where
// the thread has none.
func stepOf[T interface {
	Step(*world.World) T
	Done() bool
}](w *world.World, all map[int]T, thread int) bool {
	call, ok := all[thread]
	if ok {
		all[thread] = call.Step(w)
		if all[thread].Done() {
			delete(all, thread)
		}
	}
	return ok
}

// step: one of the thread's; false, where it has nothing under way.
func (x *run) step(thread int) bool {
	return stepOf(x.w, x.gets, thread) || stepOf(x.w, x.puts, thread) || stepOf(x.w, x.houses, thread) || x.close(thread)
}

// close: a step of a closing, which reserves only what is free, and answers as
// it should, or a test fails.
func (x *run) close(thread int) bool {
	c, ok := x.closes[thread]
	if !ok {
		return false
	}
	was, next := x.w.Clone(), c.Step(x.w)
	x.closes[thread] = next
	if next.Done() {
		delete(x.closes, thread)
	}
	for _, id := range x.w.Bag.IDs() {
		if stateOf(x.w, id) == word.Reserved && stateOf(was, id) != word.Reserved {
			is(x.t, "it was in", stateOf(was, id), word.Free)
		}
	}
	want := api.OK
	if c.State() == "start" && was.Closed {
		want = api.ErrClosed
		are(x.t, "changed by a second one", changed(x.w, tell(was)), "history")
	}
	is(x.t, "its error", next.Err(), want)
	is(x.t, "closed", x.w.Closed, true)
	return true
}

// where: in how many ways an id is somewhere.
func (x *run) where(id uint64) int {
	_, leased := x.w.Book.Holder(id)
	ways := []bool{stateOf(x.w, id) == word.Free, leased, !x.w.Factory.IsOpen(id)}
	for _, s := range x.w.Slots.All() {
		ways = append(ways, s.ID == id)
	}
	for thread := range 4 {
		for _, carried := range []uint64{
			x.gets[thread].Carries(), x.puts[thread].Carries(),
			x.houses[thread].Carries(), x.closes[thread].Carries(),
		} {
			ways = append(ways, carried == id)
		}
	}
	n := 0
	for _, holds := range ways {
		if holds {
			n++
		}
	}
	return n
}

// left: what is to be done is done, and what is held is given back.
func (x *run) left() {
	for range 2 {
		for thread := range 4 {
			for i := 0; i < 500 && x.step(thread); i++ {
			}
			for _, id := range x.w.Book.Held(thread) {
				x.puts[thread] = mput.Begin(thread, id)
				for x.step(thread) {
				}
			}
		}
	}
}

// P21.1, P21.2: whoever's turn it is, each id is in just one place; one closing
// of all closes; and once all is given back behind it, nothing is left.
func TestWhoeversTurn(t *testing.T) {
	r := rand.New(rand.NewSource(22))
	for range 400 {
		most := 1 + r.Intn(4)
		w, _ := world.New(conf.Conf{Max: most, MinIdle: r.Intn(most + 1), Idle: 3, Keep: 2, Leak: 4}, nil, nil)
		x := &run{t, r, w, map[int]mget.Get{}, map[int]mput.Put{}, map[int]mhouse.House{}, map[int]Close{}}
		for range 200 {
			thread := r.Intn(4)
			if !x.step(thread) {
				x.begin(thread)
			}
			if r.Intn(8) == 0 {
				w.Tick(1)
			}
			for id := uint64(1); id <= w.Factory.Opened(); id++ {
				if n := x.where(id); n != 1 {
					t.Fatalf("%d is in %d places: %v", id, n, tell(w))
				}
			}
		}
		w.Tick(9)
		x.left()
		is(t, "under way yet", len(x.gets)+len(x.puts)+len(x.houses)+len(x.closes), 0)
		until(t, w, Begin(6), "done")
		is(t, "open", len(w.Factory.IDs()), 0)
		is(t, "listed", w.Bag.List().Len(), 0)
		is(t, "live", w.Live, 0)
		is(t, "slots", len(w.Slots.All()), 0)
	}
}
