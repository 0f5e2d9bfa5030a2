package mget

import (
	"fmt"
	"math/rand"
	"slices"
	"testing"

	"hackney/api"
	"hackney/carry"
	"hackney/conf"
	"hackney/give"
	"hackney/hist"
	"hackney/slots"
	"hackney/snap"
	"hackney/word"
	"hackney/world"
)

// is: it was wanted so, or a test fails.
func is[T comparable](t *testing.T, what string, got, want T) {
	t.Helper()
	if got != want {
		t.Errorf("%s: %v, wanted %v", what, got, want)
	}
}

// are: just these, in that order, or a test fails.
func are[T comparable](t *testing.T, what string, got []T, want ...T) {
	t.Helper()
	if !slices.Equal(got, want) {
		t.Errorf("%s: %v, wanted %v", what, got, want)
	}
}

// got: what it tells of what it got, or a test fails.
func got(t *testing.T, what string, g Get, id uint64, e api.Errno) {
	t.Helper()
	if n, f := g.Got(); n != id || f != e {
		t.Errorf("%s: got %d, %d, wanted %d, %d", what, n, f, id, e)
	}
}

// tell: a world's parts, each as a text.
func tell(w *world.World) map[string]string {
	entries, lists, leases := "", "", fmt.Sprint(w.Book.Flagged(), w.Book.Timers(), w.Book.Len())
	for _, id := range w.Bag.IDs() {
		x, _ := w.Bag.Entry(id)
		entries += fmt.Sprint(x)
	}
	for id := range uint64(20) {
		since, _ := w.Book.Since(id)
		leases += fmt.Sprint(w.Book.Marked(id), since)
	}
	for thread := range api.MaxThreads {
		lists += fmt.Sprint(w.Locals.All(thread))
		leases += fmt.Sprint(w.Book.Held(thread))
	}
	return map[string]string{
		"bag":     entries,
		"list":    fmt.Sprint(w.Bag.List().All()),
		"locals":  lists,
		"slots":   fmt.Sprint(w.Slots.All()),
		"book":    leases,
		"factory": fmt.Sprint(w.Factory.IDs(), w.Factory.Opened(), w.Factory.Closed()),
		"history": fmt.Sprint(w.History.Now(), w.History.All()),
		"live":    fmt.Sprint(w.Live),
		"rest":    fmt.Sprint(w.Conf, w.Now(), w.Closed),
	}
}

// steps: a step, behind which it is in that state, and just these parts of
// the world aren't as they were.
func steps(t *testing.T, w *world.World, g Get, state string, parts ...string) Get {
	t.Helper()
	was, self := tell(w), fmt.Sprintf("%+v", g)
	next := g.Step(w)
	is(t, "behind "+g.state, next.State(), state)
	is(t, "the getting that it was", fmt.Sprintf("%+v", g), self)
	var other []string
	for part, now := range tell(w) {
		if was[part] != now {
			other = append(other, part)
		}
	}
	slices.Sort(other)
	are(t, "changed by "+g.state, other, parts...)
	return next
}

// of: a world of a Max, at the tick 7, with ids that are in these states, all
// listed, and live.
func of(t *testing.T, most int, states ...int) *world.World {
	t.Helper()
	return withOpens(t, most, nil, states...)
}

// withOpens: such a world, whose factory has that script behind them.
func withOpens(t *testing.T, most int, opens []bool, states ...int) *world.World {
	t.Helper()
	var script []bool
	for range states {
		script = append(script, true)
	}
	w, e := world.New(conf.Conf{Max: most}, append(script, opens...), nil)
	if e != api.OK {
		t.Fatal(e)
	}
	for _, state := range states {
		w.Grow()
		id, _ := w.Factory.Open()
		w.Bag.Enter(id, state, w.Now())
		w.Publish(id)
	}
	w.Tick(7)
	return w
}

// point: what is recorded of a getting.
func point(thread int, id uint64, e api.Errno) hist.Event {
	return hist.Event{Thread: thread, Kind: hist.Point, Op: hist.Get, ID: id, Err: e}
}

// leads: where so many steps lead.
func leads(w *world.World, g Get, n int) Get {
	for range n {
		g = g.Step(w)
	}
	return g
}

// until: where its steps lead, at most to that state.
func until(t *testing.T, w *world.World, g Get, state string) Get {
	t.Helper()
	for range 200 {
		if g.State() == state {
			return g
		}
		g = g.Step(w)
	}
	t.Fatalf("never in %s, but in %s", state, g.State())
	return g
}

// swapTo: the id's word goes on to that state.
func swapTo(t *testing.T, w *world.World, id uint64, state int) {
	t.Helper()
	x, _ := w.Bag.Load(id)
	if _, ok := w.Bag.Swap(id, x, state, w.Now()); !ok {
		t.Fatalf("%d didn't go on to %d", id, state)
	}
}

// stateOf: the state of an id's word.
func stateOf(w *world.World, id uint64) int {
	x, ok := w.Bag.Load(id)
	if !ok {
		return -1
	}
	return x.State()
}

// P18.1: it begins in the state start, and has nothing.
func TestBegin(t *testing.T) {
	for _, thread := range []int{0, 7, -1, 8} {
		for _, deadline := range []uint64{0, 9, api.MaxTick, 1<<64 - 1} {
			g := Begin(thread, deadline)
			is(t, "state", g.State(), "start")
			is(t, "done", g.Done(), false)
			is(t, "carries", g.Carries(), 0)
			got(t, "begun", g, 0, api.OK)
		}
	}
}

// P18.1: of a nil world it is the same, in whatever state.
func TestOfNil(t *testing.T) {
	w := of(t, 1)
	g := Begin(0, 9)
	for range 8 {
		if s := fmt.Sprintf("%+v", g.Step(nil)); s != fmt.Sprintf("%+v", g) {
			t.Errorf("of a nil world: %s", s)
		}
		g = g.Step(w)
	}
	is(t, "done", g.Done(), true)
	is(t, "nothing", Get{}.Step(nil).State(), "")
	is(t, "nothing", steps(t, w, Get{}, "").Done(), false)
	is(t, "nothing", Get{}.Carries(), 0)
	got(t, "nothing", Get{}, 0, api.OK)
}

// P18.1: of a new world it opens one, in six steps, which it holds.
func TestOfNewWorld(t *testing.T) {
	w := of(t, 1)
	g := steps(t, w, Begin(5, 9), "near")
	g = steps(t, w, g, "snap")
	g = steps(t, w, g, "grow")
	g = steps(t, w, g, "open", "live")
	g = steps(t, w, g, "publish", "bag", "factory")
	is(t, "carries", g.Carries(), 1)
	x, _ := w.Bag.Entry(1)
	is(t, "its word", x.Word, word.Of(word.InUse, 0))
	is(t, "born", x.Born, 7)
	is(t, "not done", g.Done(), false)
	got(t, "not done", g, 0, api.OK)
	g = steps(t, w, g, "done", "book", "history", "list")
	is(t, "done", g.Done(), true)
	is(t, "carries", g.Carries(), 0)
	got(t, "done", g, 1, api.OK)
	are(t, "held", w.Book.Held(5), 1)
	since, _ := w.Book.Since(1)
	is(t, "since", since, 7)
	are(t, "recorded", w.History.All(), point(5, 1, api.OK))
	are(t, "listed", w.Bag.List().All(), 1)
	g = steps(t, w, g, "done")
	got(t, "done", g, 1, api.OK)
}

// P18.1: of a world that is closed it gets nothing.
func TestOfClosed(t *testing.T) {
	w := of(t, 2, word.Free)
	w.Closed = true
	g := steps(t, w, Begin(3, 9), "done", "history")
	got(t, "closed", g, 0, api.ErrClosed)
	is(t, "done", g.Done(), true)
	are(t, "recorded", w.History.All(), point(3, 0, api.ErrClosed))
	steps(t, w, g, "done")
}

// P18.1: what the thread had last is looked at first, one behind the other.
func TestNear(t *testing.T) {
	w := of(t, 5, word.Free, word.InUse, word.Free, word.Reserved, word.Removed)
	w.Locals.Put(2, 3, 9, 4, 2)
	w.Locals.Put(1, 1)
	g := steps(t, w, leads(w, Begin(2, 9), 1), "load", "locals")
	are(t, "the list", w.Locals.All(2), 3, 9, 4)
	g = steps(t, w, g, "near") // the id 2 is InUse
	g = steps(t, w, g, "load", "locals")
	g = steps(t, w, g, "near") // the id 4 is Reserved
	g = steps(t, w, g, "load", "locals")
	g = steps(t, w, g, "near") // there is no id 9
	g = steps(t, w, g, "load", "locals")
	g = steps(t, w, g, "swap")
	g = steps(t, w, g, "done", "bag", "book", "history")
	got(t, "near", g, 3, api.OK)
	are(t, "held", w.Book.Held(2), 3)
	is(t, "taken", stateOf(w, 3), word.InUse)
	are(t, "recorded", w.History.All(), point(2, 3, api.OK))
	are(t, "another one's list", w.Locals.All(1), 1)
}

// P18.1: where none of the thread's list is free it looks at all.
func TestNearThenAll(t *testing.T) {
	w := of(t, 5, word.InUse, word.Free)
	w.Locals.Put(2, 1)
	g := leads(w, Begin(2, 9), 2)
	g = steps(t, w, g, "near")
	g = steps(t, w, g, "snap")
	g = steps(t, w, g, "load")
	g = steps(t, w, g, "load") // not near any more: the snap's next one
	g = steps(t, w, g, "swap")
	g = steps(t, w, g, "done", "bag", "book", "history")
	got(t, "the second one", g, 2, api.OK)
}

// P18.1: what is near, and was taken by another one since, is let go.
func TestNearTaken(t *testing.T) {
	w := of(t, 2, word.Free, word.Free)
	w.Locals.Put(2, 2, 1)
	g := until(t, w, Begin(2, 9), "swap")
	swapTo(t, w, 1, word.InUse)
	g = steps(t, w, g, "near")
	g = steps(t, w, g, "load", "locals")
	g = leads(w, g, 2)
	got(t, "the next one", g, 2, api.OK)
}

// P18.1: all that are listed are looked at, in their order, as they were then.
func TestAll(t *testing.T) {
	w := of(t, 9, word.InUse, word.Removed, word.Reserved, word.Free, word.Free)
	w.Bag.Unlist(4)
	w.Bag.Publish(4) // behind 5
	g := leads(w, Begin(0, 9), 2)
	g = steps(t, w, g, "load")
	w.Bag.Unlist(5) // it is in the snap all the same
	w.Bag.Unlist(1)
	for range 3 {
		g = steps(t, w, g, "load")
	}
	g = steps(t, w, g, "swap")
	g = steps(t, w, g, "done", "bag", "book", "history")
	got(t, "the first that is free", g, 5, api.OK)
	is(t, "taken", stateOf(w, 5), word.InUse)
}

// P18.1: what was taken by another one since is passed over, though it is
// free again.
func TestTakenSince(t *testing.T) {
	w := of(t, 3, word.Free, word.InUse)
	g := until(t, w, Begin(0, 9), "swap")
	swapTo(t, w, 1, word.InUse)
	swapTo(t, w, 1, word.Free)
	g = steps(t, w, g, "load")
	g = steps(t, w, g, "grow")
	g = steps(t, w, g, "open", "live")
	g = steps(t, w, g, "publish", "bag", "factory")
	g = steps(t, w, g, "done", "book", "history", "list")
	got(t, "one more", g, 3, api.OK)
	are(t, "listed", w.Bag.List().All(), 1, 2, 3)
}

// P18.1: where none may be opened, it ends with that.
func TestNotOpened(t *testing.T) {
	w := withOpens(t, 2, []bool{false})
	g := until(t, w, Begin(4, 9), "open")
	g = steps(t, w, g, "shrink") // what the factory's script has next can't be told yet
	is(t, "live", w.Live, 1)
	g = steps(t, w, g, "done", "history", "live")
	is(t, "live", w.Live, 0)
	got(t, "not opened", g, 0, api.ErrOpen)
	are(t, "recorded", w.History.All(), point(4, 0, api.ErrOpen))
	g = leads(w, Begin(4, 9), 6)
	got(t, "the next one", g, 1, api.OK)
}

// P18.1: what is opened too late is closed again.
func TestOpenedTooLate(t *testing.T) {
	w := of(t, 2)
	w.Grow()
	g := until(t, w, Begin(4, 9), "grow")
	w.Closed = true
	g = steps(t, w, g, "open", "live")
	g = steps(t, w, g, "publish", "bag", "factory")
	is(t, "carries", g.Carries(), 1)
	g = steps(t, w, g, "drop")
	is(t, "carries", g.Carries(), 1)
	g = steps(t, w, g, "unlive", "bag", "factory", "history")
	is(t, "removed", stateOf(w, 1), word.Removed)
	is(t, "carries", g.Carries(), 0)
	are(t, "recorded", w.History.All(), hist.Event{Thread: 4, Kind: hist.Retire, Op: hist.Get, ID: 1})
	g = steps(t, w, g, "done", "history", "live")
	is(t, "live", w.Live, 1)
	got(t, "closed", g, 0, api.ErrClosed)
	are(t, "recorded", w.History.All()[1:], point(4, 0, api.ErrClosed))
}

// waiting: a getting that waits, in a world in which another one holds the
// only id, with what the factory's script has behind that.
func waiting(t *testing.T, deadline uint64, opens ...bool) (*world.World, Get) {
	t.Helper()
	w := withOpens(t, 1, opens, word.InUse)
	w.Lease(1, 0)
	return w, until(t, w, Begin(6, deadline), "wait")
}

// P18.1: where there is no room it parks, looks at all once more, and waits.
func TestPark(t *testing.T) {
	w := of(t, 1, word.InUse)
	w.Locals.Put(6, 1)
	g := until(t, w, Begin(6, 12), "grow")
	g = steps(t, w, g, "park")
	w.Locals.Put(6, 1) // it is not looked there again
	g = steps(t, w, g, "snap", "slots")
	are(t, "its slot", w.Slots.All(), slots.Slot{Thread: 6, Deadline: 12})
	g = steps(t, w, g, "load")
	g = steps(t, w, g, "wait")
	for range 4 {
		g = steps(t, w, g, "wait")
	}
	w.Tick(4)
	g = steps(t, w, g, "wait")
	is(t, "carries", g.Carries(), 0)
	got(t, "waiting", g, 0, api.OK)
	is(t, "done", g.Done(), false)
}

// P18.1: parked it comes to wait, where nothing is listed, too.
func TestParkOfNone(t *testing.T) {
	w := of(t, 1)
	w.Grow()
	g := until(t, w, Begin(6, 12), "park")
	g = steps(t, w, g, "snap", "slots")
	g = steps(t, w, g, "wait")
	steps(t, w, g, "wait")
}

// P18.1: parked it takes what was freed in between, and leaves its slot.
func TestFreedBeforeItParked(t *testing.T) {
	for _, state := range []string{"park", "snap"} {
		w := of(t, 1, word.InUse)
		g := until(t, w, Begin(6, 12), "park")
		g = until(t, w, g, state)
		swapTo(t, w, 1, word.Free)
		g = until(t, w, g, "swap")
		g = steps(t, w, g, "leave", "bag", "book", "history")
		are(t, "recorded", w.History.All(), point(6, 1, api.OK))
		is(t, "done", g.Done(), false)
		got(t, "not done", g, 0, api.OK)
		g = steps(t, w, g, "done", "slots")
		is(t, "slots", len(w.Slots.All()), 0)
		got(t, "done", g, 1, api.OK)
		are(t, "recorded", w.History.All(), point(6, 1, api.OK))
	}
}

// P18.1: what it is handed it has.
func TestHanded(t *testing.T) {
	w, g := waiting(t, 12)
	w.Book.End(1, 0)
	w.Slots.Park(5, 20)
	w.Slots.Fill(1)
	g = steps(t, w, g, "leave")
	is(t, "carries", g.Carries(), 0)
	got(t, "not done", g, 0, api.OK)
	g = steps(t, w, g, "done", "book", "history", "slots")
	got(t, "handed", g, 1, api.OK)
	is(t, "parked", g.parked, false)
	are(t, "held", w.Book.Held(6), 1)
	are(t, "the other one's slot", w.Slots.All(), slots.Slot{Thread: 5, Deadline: 20})
	are(t, "recorded", w.History.All(), point(6, 1, api.OK))
}

// P18.1: another one's slot is not looked at.
func TestAnotherOneHanded(t *testing.T) {
	w := of(t, 1, word.InUse)
	w.Slots.Park(5, 20)
	g := until(t, w, Begin(6, 12), "wait")
	w.Slots.Fill(1)
	g = steps(t, w, g, "wait")
	w.Tick(5)
	leads(w, g, 2)
	are(t, "the other one's slot", w.Slots.All(), slots.Slot{Thread: 5, Deadline: 20, ID: 1})
}

// P18.1, P18.2: of what is so while it waits the first goes: it is handed
// something, the world is closed, the deadline is reached, there is room.
func TestWait(t *testing.T) {
	for i := range 16 {
		w, g := waiting(t, 12)
		handed, closed, late, room := i&1 > 0, i&2 > 0, i&4 > 0, i&8 > 0
		if handed {
			w.Book.End(1, 0)
			w.Slots.Fill(1)
		}
		w.Closed = closed
		w.Tick(4)
		if late {
			w.Tick(1)
		}
		if room {
			w.Conf.Max = 2
		}
		switch {
		case handed:
			g = leads(w, steps(t, w, g, "leave"), 1)
			got(t, "handed", g, 1, api.OK)
		case closed:
			g = steps(t, w, steps(t, w, g, "leave"), "done", "history", "slots")
			got(t, "closed", g, 0, api.ErrClosed)
			are(t, "recorded", w.History.All(), point(6, 0, api.ErrClosed))
		case late:
			g = steps(t, w, steps(t, w, g, "leave"), "done", "history", "slots")
			got(t, "too late", g, 0, api.ErrTimeout)
			are(t, "recorded", w.History.All(), point(6, 0, api.ErrTimeout))
		case room:
			g = leads(w, steps(t, w, g, "grow"), 4)
			got(t, "room", g, 2, api.OK)
		default:
			steps(t, w, g, "wait")
		}
		is(t, "carries", g.Carries(), 0)
	}
}

// P18.1: fewer than Max must be live.
func TestWaitOfAnotherMax(t *testing.T) {
	w, g := waiting(t, 12)
	w.Live = 2 // by another Max
	w.Conf.Max = 2
	steps(t, w, g, "wait")
	w.Conf.Max = 1
	steps(t, w, g, "wait")
	w.Live = 0
	steps(t, w, g, "grow")
}

// P18.1, P18.2: a deadline that is reached already when it begins; and ones
// that never are.
func TestDeadlines(t *testing.T) {
	for _, deadline := range []uint64{0, 6, 7} {
		w, g := waiting(t, deadline)
		g = leads(w, g, 2)
		got(t, "at once", g, 0, api.ErrTimeout)
	}
	w, g := waiting(t, 8)
	g = steps(t, w, g, "wait")
	w.Tick(1)
	g = steps(t, w, g, "leave")
	got(t, "at the deadline", g.Step(w), 0, api.ErrTimeout)
	w, g = waiting(t, api.MaxTick+1)
	w.Tick(api.MaxTick)
	steps(t, w, g, "wait")
	w, g = waiting(t, api.MaxTick)
	w.Tick(api.MaxTick)
	steps(t, w, g, "leave")
}

// P18.1: parked it may grow; where another one was quicker it waits on.
func TestGrowParked(t *testing.T) {
	w, g := waiting(t, 12)
	w.Shrink()
	g = steps(t, w, g, "grow")
	w.Grow()
	g = steps(t, w, g, "wait")
	w.Shrink()
	g = steps(t, w, g, "grow")
	g = steps(t, w, g, "open", "live")
	g = steps(t, w, g, "publish", "bag", "factory")
	is(t, "carries", g.Carries(), 2)
	g = steps(t, w, g, "leave", "book", "history", "list")
	is(t, "carries", g.Carries(), 0)
	g = steps(t, w, g, "done", "slots")
	got(t, "opened", g, 2, api.OK)
}

// P18.1: parked it leaves its slot ahead of ending, of what is not opened.
func TestNotOpenedParked(t *testing.T) {
	for _, handed := range []bool{false, true} {
		w, g := waiting(t, 12, false)
		w.Shrink()
		g = until(t, w, g, "shrink")
		g = steps(t, w, g, "leave", "live")
		got(t, "not done", g, 0, api.OK)
		if handed {
			w.Book.End(1, 0)
			w.Slots.Fill(1)
			g = steps(t, w, g, "done", "book", "history", "slots")
			got(t, "handed", g, 1, api.OK)
			are(t, "recorded", w.History.All(), point(6, 1, api.OK))
			continue
		}
		g = steps(t, w, g, "done", "history", "slots")
		got(t, "not opened", g, 0, api.ErrOpen)
		are(t, "recorded", w.History.All(), point(6, 0, api.ErrOpen))
	}
}

// P18.1: parked, and closed once it was opened.
func TestOpenedTooLateParked(t *testing.T) {
	w, g := waiting(t, 12)
	w.Shrink()
	g = until(t, w, g, "publish")
	w.Closed = true
	g = steps(t, w, g, "drop")
	g = steps(t, w, g, "unlive", "bag", "factory", "history")
	g = steps(t, w, g, "leave", "live")
	got(t, "not done", g, 0, api.OK)
	g = steps(t, w, g, "done", "history", "slots")
	got(t, "closed", g, 0, api.ErrClosed)
	are(t, "the last one", w.History.All()[1:], point(6, 0, api.ErrClosed))
}

// P18.1: who gave up waiting is handed something all the same, where that
// came ahead of its leaving.
func TestHandedAtLast(t *testing.T) {
	for _, closed := range []bool{false, true} {
		w, g := waiting(t, 12)
		w.Tick(5)
		w.Closed = closed
		g = steps(t, w, g, "leave")
		w.Book.End(1, 0)
		w.Slots.Fill(1)
		g = steps(t, w, g, "done", "book", "history", "slots")
		got(t, "handed", g, 1, api.OK)
		are(t, "recorded", w.History.All(), point(6, 1, api.OK))
		are(t, "held", w.Book.Held(6), 1)
	}
}

// extraOf: a getting that has the id 2, and was handed the id 1, too.
func extraOf(t *testing.T) (*world.World, Get) {
	t.Helper()
	w, g := waiting(t, 12)
	w.Shrink()
	g = until(t, w, g, "leave")
	w.Book.End(1, 0)
	w.Slots.Fill(1)
	return w, g
}

// P18.1: what it is handed beside what it got it gives on, as that is now.
func TestExtra(t *testing.T) {
	w, g := extraOf(t)
	swapTo(t, w, 1, word.Free)
	swapTo(t, w, 1, word.InUse)
	g = steps(t, w, g, "extra", "slots")
	is(t, "carries", g.Carries(), 1)
	g = steps(t, w, g, "extra")
	is(t, "carries", g.Carries(), 1) // free
	got(t, "not done", g, 0, api.OK)
	g = steps(t, w, g, "extra", "bag")
	is(t, "carries", g.Carries(), 0) // stash
	x, _ := w.Bag.Load(1)
	is(t, "its word", x, word.Of(word.Free, 3))
	g = steps(t, w, g, "extra", "locals")
	is(t, "carries", g.Carries(), 0) // again
	are(t, "the list", w.Locals.All(6), 1)
	g = steps(t, w, g, "done")
	is(t, "carries", g.Carries(), 0)
	got(t, "done", g, 2, api.OK)
	are(t, "held", w.Book.Held(6), 2)
	are(t, "recorded", w.History.All(), point(6, 2, api.OK))
	steps(t, w, g, "done")
}

// P18.1: handed on, at once, or behind that it was freed.
func TestExtraHandedOn(t *testing.T) {
	w, g := extraOf(t)
	w.Slots.Park(3, 99)
	g = steps(t, w, g, "extra", "slots")
	g = steps(t, w, g, "done", "slots")
	are(t, "handed on", w.Slots.All(), slots.Slot{Thread: 3, Deadline: 99, ID: 1})
	got(t, "done", g, 2, api.OK)
	w, g = extraOf(t)
	g = leads(w, g, 3)
	w.Slots.Park(3, 99)
	g = steps(t, w, g, "extra", "locals") // to again
	g = steps(t, w, g, "extra")           // to back
	is(t, "carries", g.Carries(), 0)
	g = steps(t, w, g, "extra", "bag") // to offer
	is(t, "carries", g.Carries(), 1)
	g = steps(t, w, g, "done", "slots")
	is(t, "carries", g.Carries(), 0)
}

// P18.1: closed, by the thread and Get.
func TestExtraClosed(t *testing.T) {
	w, g := extraOf(t)
	g = steps(t, w, g, "extra", "slots")
	w.Closed = true
	g = steps(t, w, g, "extra") // to close
	is(t, "carries", g.Carries(), 1)
	g = steps(t, w, g, "extra", "bag", "factory", "history")
	is(t, "carries", g.Carries(), 0) // unlist
	are(t, "recorded", w.History.All()[1:], hist.Event{Thread: 6, Kind: hist.Retire, Op: hist.Get, ID: 1})
	g = steps(t, w, g, "extra", "list")
	is(t, "carries", g.Carries(), 0) // shrink
	g = steps(t, w, g, "done", "live")
	got(t, "done", g, 2, api.OK)
}

// P18.1: carried is what a giving has in the states offer, free and close.
func TestCarries(t *testing.T) {
	for _, state := range []string{"offer", "free", "stash", "again", "back", "close", "unlist", "shrink", "done"} {
		want := uint64(0)
		if slices.Contains([]string{"offer", "free", "close"}, state) {
			want = 8
		}
		g := Get{id: 5, got: 5, state: "extra", giving: give.Give{ID: 8, State: state}}
		is(t, "of "+state, g.Carries(), want)
	}
	for _, state := range []string{"start", "near", "snap", "load", "swap", "grow", "open", "shrink", "publish", "drop", "unlive", "park", "wait", "leave", "done"} {
		want := uint64(0)
		if slices.Contains([]string{"publish", "drop"}, state) {
			want = 5
		}
		g := Get{id: 5, state: state, giving: give.Give{ID: 8, State: "offer"}}
		is(t, "of "+state, g.Carries(), want)
	}
}

// P18.1: slots, and leases, that are there, or aren't, though they should be.
func TestOthersMeddle(t *testing.T) {
	w, g := waiting(t, 12)
	w.Slots.Take(6)
	g = steps(t, w, g, "wait")
	w.Tick(5)
	g = steps(t, w, g, "leave")
	g = steps(t, w, g, "done", "history")
	got(t, "without a slot", g, 0, api.ErrTimeout)
	w = of(t, 1, word.InUse)
	w.Slots.Park(6, 3)
	w.Slots.Fill(1)
	g = until(t, w, Begin(6, 12), "park")
	g = steps(t, w, g, "snap")
	g = until(t, w, g, "wait")
	got(t, "with a slot", leads(w, g, 2), 1, api.OK)
	w = of(t, 1, word.Free)
	w.Lease(1, 3)
	g = until(t, w, Begin(6, 12), "swap")
	g = steps(t, w, g, "done", "bag", "history")
	got(t, "leased to another one", g, 1, api.OK)
	for _, thread := range []int{-1, 8} {
		w := of(t, 1, word.Free)
		g := until(t, w, Begin(thread, 12), "swap")
		g = steps(t, w, g, "done", "bag", "history")
		got(t, "of no thread", g, 1, api.OK)
		are(t, "recorded", w.History.All(), point(thread, 1, api.OK))
	}
}

// P18.1: a getting is a value: of one that was kept a step does the same in a
// clone, and its snap stays as it was.
func TestKept(t *testing.T) {
	w := of(t, 4, word.InUse, word.InUse, word.Free)
	g := until(t, w, Begin(1, 9), "load")
	c := w.Clone()
	w.Bag.Unlist(3)
	w.Bag.Publish(3)
	one, other := until(t, w, g, "done"), until(t, c, g, "done")
	got(t, "in the world", one, 3, api.OK)
	got(t, "in its clone", other, 3, api.OK)
	is(t, "the one that was kept", g.State(), "load")
	are(t, "its snap", g.list.All(), snap.Of(1, 2, 3).All()...)
}

// run: threads that get and give back, in a world.
type run struct {
	t      *testing.T
	r      *rand.Rand
	w      *world.World
	gets   [4]Get
	lines  [4]uint64 // deadlines
	gives  [4]give.Give
	called [4]bool // a getting is under way
	gone   [4]bool // a giving is
	failed bool    // something was not opened
}

// begin: the thread gets something, or gives something back.
func (x *run) begin(thread int) {
	held := x.w.Book.Held(thread)
	if len(held) > 0 && x.r.Intn(3) > 0 {
		id := held[x.r.Intn(len(held))]
		if x.r.Intn(5) == 0 {
			x.w.Book.Mark(id, thread)
		}
		x.w.Book.End(id, thread)
		y, _ := x.w.Bag.Load(id)
		x.gives[thread], x.gone[thread] = give.Offer(thread, hist.Put, id, y), true
		return
	}
	x.lines[thread] = x.w.Now() + uint64(x.r.Intn(6))
	x.gets[thread], x.called[thread] = Begin(thread, x.lines[thread]), true
}

// step: one of the thread's.
func (x *run) step(thread int) {
	switch {
	case x.gone[thread]:
		x.gives[thread] = x.gives[thread].Step(x.w)
		x.gone[thread] = !x.gives[thread].Done()
	case x.called[thread]:
		g := x.gets[thread]
		x.gets[thread] = g.Step(x.w)
		x.failed = x.failed || x.gets[thread].State() == "shrink"
		x.called[thread] = !x.gets[thread].Done()
		if !x.called[thread] {
			x.ended(thread)
		}
	}
}

// ended: what a getting came to may be, or a test fails.
func (x *run) ended(thread int) {
	id, e := x.gets[thread].Got()
	switch e {
	case api.OK:
		if holder, ok := x.w.Book.Holder(id); !ok || holder != thread || stateOf(x.w, id) != word.InUse {
			x.t.Errorf("%d got %d, and doesn't hold it", thread, id)
		}
		return
	case api.ErrTimeout:
		is(x.t, "the deadline is reached", x.w.Now() >= x.lines[thread], true)
	case api.ErrClosed:
		is(x.t, "closed", x.w.Closed, true)
	default:
		is(x.t, "not opened", e == api.ErrOpen && x.failed, true)
	}
	is(x.t, "nothing beside an error", id, 0)
	_, ok := x.w.Slots.Of(thread)
	is(x.t, "a slot that it left", ok, false)
}

// where: in how many ways an id is somewhere.
func (x *run) where(id uint64) int {
	_, leased := x.w.Book.Holder(id)
	n := 0
	for _, holds := range []bool{stateOf(x.w, id) == word.Free, leased, !x.w.Factory.IsOpen(id)} {
		if holds {
			n++
		}
	}
	for _, s := range x.w.Slots.All() {
		if s.ID == id {
			n++
		}
	}
	for thread := range x.gets {
		if x.called[thread] && x.gets[thread].Carries() == id || x.gone[thread] && carry.Of(x.gives[thread]) == id {
			n++
		}
	}
	return n
}

// P18.2: whoever's turn it is, each id is in just one place; who got something
// holds it; nobody is sent away ahead of the deadline, or as if it were closed;
// and each comes to its end.
func TestWhoeversTurn(t *testing.T) {
	r := rand.New(rand.NewSource(18))
	for range 1500 {
		var opens []bool
		for range 12 {
			opens = append(opens, r.Intn(4) > 0)
		}
		w, _ := world.New(conf.Conf{Max: 1 + r.Intn(3)}, opens, nil)
		x := &run{t: t, r: r, w: w}
		for range 300 {
			thread := r.Intn(4)
			switch {
			case x.called[thread] || x.gone[thread]:
				x.step(thread)
			case !w.Closed || len(w.Book.Held(thread)) > 0:
				x.begin(thread)
			}
			if r.Intn(12) == 0 {
				w.Tick(1)
			}
			w.Closed = w.Closed || r.Intn(300) == 0
			for id := uint64(1); id <= w.Factory.Opened(); id++ {
				if n := x.where(id); n != 1 {
					t.Fatalf("%d is in %d places: %v", id, n, tell(w))
				}
			}
			if w.Live > w.Conf.Max || len(w.Factory.IDs()) > w.Conf.Max {
				t.Fatalf("%d are live, of %d", w.Live, w.Conf.Max)
			}
		}
		w.Tick(9)
		for thread := range x.gets {
			for i := 0; i < 200 && (x.called[thread] || x.gone[thread]); i++ {
				x.step(thread)
			}
			is(t, "under way yet", x.called[thread] || x.gone[thread], false)
		}
		is(t, "slots", len(w.Slots.All()), 0)
	}
}
