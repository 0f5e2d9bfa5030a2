package mhouse

import (
	"fmt"
	"math/rand"
	"slices"
	"testing"

	"hackney/api"
	"hackney/bag"
	"hackney/conf"
	"hackney/give"
	"hackney/hist"
	"hackney/mget"
	"hackney/mput"
	"hackney/slots"
	"hackney/word"
	"hackney/world"
)

// is: it was wanted so, or a test fails.
func is[T comparable](t *testing.T, what string, got, want T) {
	t.Helper()
	if got != want {
		t.Errorf("%s: %v, wanted %v", what, got, want)
	}
}

// are: just these, in that order, or a test fails.
func are[T comparable](t *testing.T, what string, got []T, want ...T) {
	t.Helper()
	if !slices.Equal(got, want) {
		t.Errorf("%s: %v, wanted %v", what, got, want)
	}
}

// tell: a world's parts, each as a text.
func tell(w *world.World) map[string]string {
	entries, lists, leases := "", "", fmt.Sprint(w.Book.Flagged(), w.Book.Timers(), w.Book.Len())
	for _, id := range w.Bag.IDs() {
		x, _ := w.Bag.Entry(id)
		entries += fmt.Sprint(x)
	}
	for id := range uint64(20) {
		since, _ := w.Book.Since(id)
		leases += fmt.Sprint(w.Book.Marked(id), since)
	}
	for thread := range api.MaxThreads {
		lists += fmt.Sprint(w.Locals.All(thread))
		leases += fmt.Sprint(w.Book.Held(thread))
	}
	return map[string]string{
		"bag":     entries,
		"list":    fmt.Sprint(w.Bag.List().All()),
		"locals":  lists,
		"slots":   fmt.Sprint(w.Slots.All()),
		"book":    leases,
		"factory": fmt.Sprint(w.Factory.IDs(), w.Factory.Opened(), w.Factory.Closed()),
		"history": fmt.Sprint(w.History.Now(), w.History.All()),
		"live":    fmt.Sprint(w.Live),
		"rest":    fmt.Sprint(w.Conf, w.Now(), w.Closed),
	}
}

// changed: which parts aren't as they were, by name, in order.
func changed(w *world.World, was map[string]string) []string {
	var out []string
	for part, now := range tell(w) {
		if was[part] != now {
			out = append(out, part)
		}
	}
	slices.Sort(out)
	return out
}

// steps: a step, behind which it is in that state, and carries that, and just
// these parts of the world aren't as they were.
func steps(t *testing.T, w *world.World, h House, state string, carries uint64, parts ...string) House {
	t.Helper()
	was, self := tell(w), fmt.Sprintf("%+v", h)
	next := h.Step(w)
	is(t, "behind "+h.state, next.State(), state)
	is(t, "done", next.Done(), state == "done")
	is(t, "carries", next.Carries(), carries)
	is(t, "the round that it was", fmt.Sprintf("%+v", h), self)
	are(t, "changed by "+h.state, changed(w, was), parts...)
	return next
}

// closes: the steps of a giving that is to be closed; the last one leads to
// that state.
func closes(t *testing.T, w *world.World, h House, state string) House {
	t.Helper()
	id := h.Carries()
	before := len(w.History.All())
	h = steps(t, w, h, "give", 0, "bag", "factory", "history")
	are(t, "recorded", w.History.All()[before:], event(hist.Retire, id))
	is(t, "its word", stateOf(w, id), word.Removed)
	is(t, "open", w.Factory.IsOpen(id), false)
	if w.Bag.List().Index(id) >= 0 {
		h = steps(t, w, h, "give", 0, "list")
	} else {
		h = steps(t, w, h, "give", 0)
	}
	return steps(t, w, h, state, 0, "live")
}

// until: where its steps lead, at most to that state.
func until(t *testing.T, w *world.World, h House, state string) House {
	t.Helper()
	for range 300 {
		if h.State() == state {
			return h
		}
		h = h.Step(w)
	}
	t.Fatalf("never in %s, but in %s", state, h.State())
	return h
}

// path: the states through which a round of the thread 6 goes to its end.
func path(t *testing.T, w *world.World) []string {
	h := Begin(6)
	out := []string{h.State()}
	for range 300 {
		if h.Done() {
			return out
		}
		h = h.Step(w)
		out = append(out, h.State())
	}
	t.Fatalf("not done: %v", out)
	return nil
}

// of: a world at the tick 7, with ids that are in these states since the tick
// 0, all listed, and live.
func of(t *testing.T, c conf.Conf, states ...int) *world.World {
	t.Helper()
	return scripted(t, c, nil, nil, states...)
}

// scripted: such a world, whose factory has these scripts behind them.
func scripted(t *testing.T, c conf.Conf, opens, proofs []bool, states ...int) *world.World {
	t.Helper()
	went := slices.Repeat([]bool{true}, len(states))
	w, e := world.New(c, append(went, opens...), proofs)
	if e != api.OK {
		t.Fatal(e)
	}
	for _, state := range states {
		w.Grow()
		id, _ := w.Factory.Open()
		w.Bag.Enter(id, state, w.Now())
		w.Publish(id)
	}
	w.Tick(7)
	return w
}

// aged, idle, keep: what is free since the tick 0 is to be closed for its age,
// or because it is idle, or proved.
func aged() conf.Conf { return conf.Conf{Max: 9, Life: 7} }
func idle() conf.Conf { return conf.Conf{Max: 9, Idle: 7} }
func keep() conf.Conf { return conf.Conf{Max: 9, Keep: 7} }

// event: what is recorded of the thread 6.
func event(kind int, id uint64) hist.Event {
	return hist.Event{Thread: 6, Kind: kind, Op: hist.House, ID: id}
}

// swapTo: the id's word goes on to that state.
func swapTo(t *testing.T, w *world.World, id uint64, state int) {
	t.Helper()
	x, _ := w.Bag.Load(id)
	if _, ok := w.Bag.Swap(id, x, state, w.Now()); !ok {
		t.Fatalf("%d didn't go on to %d", id, state)
	}
}

// stateOf: the state of an id's word.
func stateOf(w *world.World, id uint64) int {
	x, ok := w.Bag.Load(id)
	if !ok {
		return -1
	}
	return x.State()
}

// P20.1: it begins in the state start, and carries nothing.
func TestBegin(t *testing.T) {
	for _, thread := range []int{0, 7, -1, 8} {
		h := Begin(thread)
		is(t, "state", h.State(), "start")
		is(t, "done", h.Done(), false)
		is(t, "carries", h.Carries(), 0)
	}
}

// P20.1: of a nil world it is the same, in whatever state.
func TestOfNil(t *testing.T) {
	c := keep()
	c.MinIdle = 2
	w := of(t, c, word.Free)
	h := Begin(0)
	for range 20 {
		is(t, "of a nil world", fmt.Sprintf("%+v", h.Step(nil)), fmt.Sprintf("%+v", h))
		h = h.Step(w)
	}
	is(t, "done", h.Done(), true)
	is(t, "nothing", House{}.Step(nil).State(), "")
	steps(t, w, House{}, "", 0)
}

// P20.1: of a new world it opens as many as there are to be at least.
func TestFillsUp(t *testing.T) {
	w := of(t, conf.Conf{Max: 4, MinIdle: 1})
	h := steps(t, w, Begin(6), "refill", 0)
	h = steps(t, w, h, "open", 0, "live")
	h = steps(t, w, h, "publish", 1, "bag", "factory")
	entry(t, w, bag.Entry{ID: 1, Word: word.Of(word.Reserved, 0), Born: 7, Since: 7, Proved: 7})
	w.Tick(1)
	h = steps(t, w, h, "give", 0, "bag", "list")
	entry(t, w, bag.Entry{ID: 1, Word: word.Of(word.Free, 1), Born: 7, Since: 8, Proved: 7})
	are(t, "listed", w.Bag.List().All(), 1)
	h = steps(t, w, h, "refill", 0)
	h = steps(t, w, h, "leaks", 0)
	h = steps(t, w, h, "done", 0, "history")
	are(t, "recorded", w.History.All(), event(hist.Point, 0))
	steps(t, w, h, "done", 0)
	w = of(t, conf.Conf{Max: 4, MinIdle: 3})
	one := []string{"open", "publish", "give", "refill"}
	want := slices.Concat([]string{"start", "refill"}, one, one, one, []string{"leaks", "done"})
	are(t, "three", path(t, w), want...)
	are(t, "listed", w.Bag.List().All(), 1, 2, 3)
	is(t, "live", w.Live, 3)
	is(t, "free", w.Bag.Count(word.Free), 3)
}

// P20.1: it fills up behind all that are listed, and doesn't look at those
// again.
func TestFillsUpBehindAll(t *testing.T) {
	w := of(t, conf.Conf{Max: 4, MinIdle: 2, Life: 7}, word.Free, word.InUse)
	are(t, "its states", path(t, w), "start", "load", "swap", "give", "give", "give", "load", "refill",
		"open", "publish", "give", "refill", "leaks", "done")
	are(t, "listed", w.Bag.List().All(), 2, 3)
	is(t, "live", w.Live, 2)
	is(t, "the new one", stateOf(w, 3), word.Free)
}

// P20.1: it doesn't fill up what is closed, has as many as there are to be at
// least (whatever they are in), or may have no more.
func TestNotFilledUp(t *testing.T) {
	for live := range 4 {
		for least := range 4 {
			for most := 1; most < 4; most++ {
				for _, closed := range []bool{false, true} {
					w := of(t, conf.Conf{Max: 3, MinIdle: least}, slices.Repeat([]int{word.InUse}, live)...)
					w.Conf.Max, w.Closed = most, closed
					h := until(t, w, Begin(6), "refill")
					if !closed && live < least && live < most {
						steps(t, w, h, "open", 0, "live")
					} else {
						steps(t, w, h, "leaks", 0)
					}
				}
			}
		}
	}
}

// P20.1: where none may be opened, it fills up no more.
func TestNotOpened(t *testing.T) {
	w := scripted(t, conf.Conf{Max: 4, MinIdle: 3}, []bool{true, false}, nil)
	are(t, "its states", path(t, w), "start", "refill", "open", "publish", "give", "refill", "open", "shrink", "leaks", "done")
	is(t, "live", w.Live, 1)
	w = scripted(t, conf.Conf{Max: 4, MinIdle: 1}, []bool{false}, nil)
	h := until(t, w, Begin(6), "open")
	h = steps(t, w, h, "shrink", 0) // what the factory's script has next can't be told yet
	is(t, "live yet", w.Live, 1)
	h = steps(t, w, h, "leaks", 0, "live")
	is(t, "live", w.Live, 0)
	steps(t, w, h, "done", 0, "history")
	path(t, w)
	are(t, "the next round's", w.Bag.List().All(), 1)
}

// P20.1: what is opened too late is closed.
func TestOpenedTooLate(t *testing.T) {
	w := of(t, conf.Conf{Max: 4, MinIdle: 2}, word.InUse)
	h := until(t, w, Begin(6), "publish")
	w.Closed = true
	h = steps(t, w, h, "give", 2)
	h = closes(t, w, h, "refill")
	are(t, "listed", w.Bag.List().All(), 1)
	is(t, "live", w.Live, 1)
	h = steps(t, w, h, "leaks", 0)
	steps(t, w, h, "done", 0, "history")
}

// P20.1: what is opened is handed to who waits.
func TestFillsUpForWhoWaits(t *testing.T) {
	w := of(t, conf.Conf{Max: 4, MinIdle: 1})
	w.Slots.Park(2, 99)
	h := until(t, w, Begin(6), "publish")
	h = steps(t, w, h, "give", 0, "bag", "list")
	h = steps(t, w, h, "give", 0) // to back
	h = steps(t, w, h, "give", 1, "bag")
	h = steps(t, w, h, "refill", 0, "slots")
	are(t, "handed", w.Slots.All(), slots.Slot{Thread: 2, Deadline: 99, ID: 1})
	steps(t, w, h, "leaks", 0)
}

// P20.1: what isn't free, and what is free with nothing due, is passed over.
func TestPassedOver(t *testing.T) {
	for _, c := range []conf.Conf{aged(), idle(), keep()} {
		w := of(t, c, word.InUse, word.Reserved, word.Removed)
		h := steps(t, w, Begin(6), "load", 0)
		h = steps(t, w, h, "load", 0)
		h = steps(t, w, h, "load", 0)
		steps(t, w, h, "refill", 0)
	}
	for _, c := range []conf.Conf{{Max: 9}, {Max: 9, Life: 8}, {Max: 9, Idle: 8}, {Max: 9, Keep: 8}, {Max: 9, MinIdle: 2, Idle: 7}} {
		w := of(t, c, word.Free, word.Free)
		are(t, "its states", path(t, w), "start", "load", "load", "refill", "leaks", "done")
	}
}

// P20.1: each that is listed is looked at in turn, as they were listed at the
// start.
func TestAll(t *testing.T) {
	w := of(t, aged(), word.Free, word.InUse, word.Free, word.Free)
	w.Bag.Unlist(1)
	w.Bag.Publish(1) // behind 4
	w.Bag.Unlist(3)
	h := steps(t, w, Begin(6), "load", 0)
	w.Bag.Publish(3)
	w.Bag.Unlist(4) // it is in the snap all the same
	h = steps(t, w, h, "load", 0)
	h = steps(t, w, h, "swap", 0)
	h = steps(t, w, h, "give", 4, "bag")
	h = closes(t, w, h, "load")
	h = steps(t, w, h, "swap", 0)
	h = steps(t, w, h, "give", 1, "bag")
	closes(t, w, h, "refill")
	is(t, "listed since", stateOf(w, 3), word.Free)
}

// P20.1: what is too old, or idle, or of a world that is closed, is closed.
func TestCloses(t *testing.T) {
	shut := conf.Conf{Max: 9}
	for _, c := range []conf.Conf{aged(), idle(), shut} {
		w := of(t, c, word.Free, word.InUse)
		w.Closed = c == shut
		h := steps(t, w, Begin(6), "load", 0)
		h = steps(t, w, h, "swap", 0)
		h = steps(t, w, h, "give", 1, "bag")
		x, _ := w.Bag.Load(1)
		is(t, "its word", x, word.Of(word.Reserved, 1))
		h = closes(t, w, h, "load")
		h = steps(t, w, h, "refill", 0)
		h = steps(t, w, h, "leaks", 0)
		steps(t, w, h, "done", 0, "history")
		are(t, "listed", w.Bag.List().All(), 2)
		is(t, "live", w.Live, 1)
	}
}

// P20.1: of what is idle as many stay as there are to be at least.
func TestIdleTillLeast(t *testing.T) {
	c := idle()
	c.MinIdle = 2
	w := of(t, c, word.Free, word.Free, word.InUse, word.Free)
	path(t, w)
	are(t, "listed", w.Bag.List().All(), 3, 4)
	is(t, "live", w.Live, 2)
}

// P20.1: what is Due is looked at once more, ahead of the swap.
func TestDueAgain(t *testing.T) {
	w := of(t, idle(), word.Free)
	h := until(t, w, Begin(6), "swap")
	w.Conf.MinIdle = 1
	steps(t, w, h, "refill", 0) // it isn't idle any more, as there are too few
	w = of(t, keep(), word.Free, word.Free)
	h = until(t, w, Begin(6), "swap")
	w.Bag.Proved(1, 7)
	steps(t, w, h, "load", 0) // another one proved it
	w = of(t, conf.Conf{Max: 9, Keep: 7, Life: 9}, word.Free)
	h = until(t, w, Begin(6), "swap")
	w.Tick(2)
	h = steps(t, w, h, "give", 1, "bag") // it isn't to be proved any more, but closed
	closes(t, w, h, "refill")
	w = of(t, conf.Conf{Max: 9, Idle: 7, Keep: 7}, word.Free)
	h = until(t, w, Begin(6), "swap")
	w.Shrink()
	steps(t, w, h, "prove", 1, "bag") // it isn't to be closed any more, but proved
}

// P20.1: what another one took since is passed over, though it is free again.
func TestTakenSince(t *testing.T) {
	for _, c := range []conf.Conf{aged(), keep()} {
		w := of(t, c, word.Free, word.InUse)
		h := until(t, w, Begin(6), "swap")
		swapTo(t, w, 1, word.InUse)
		steps(t, w, h, "load", 0)
		w.Bag.Swap(1, word.Of(word.InUse, 1), word.Free, 0)
		steps(t, w, h, "load", 0)
	}
}

// P20.1: what may have died is proved; what lives goes back.
func TestProves(t *testing.T) {
	w := scripted(t, keep(), nil, []bool{true, false}, word.Free)
	h := until(t, w, Begin(6), "swap")
	h = steps(t, w, h, "prove", 1, "bag")
	entry(t, w, bag.Entry{ID: 1, Word: word.Of(word.Reserved, 1)})
	w.Tick(1)
	h = steps(t, w, h, "unres", 1, "bag")
	entry(t, w, bag.Entry{ID: 1, Word: word.Of(word.Reserved, 1), Proved: 8})
	w.Tick(1)
	h = steps(t, w, h, "give", 0, "bag")
	entry(t, w, bag.Entry{ID: 1, Word: word.Of(word.Free, 2), Since: 9, Proved: 8})
	h = steps(t, w, h, "refill", 0)
	h = steps(t, w, h, "leaks", 0)
	steps(t, w, h, "done", 0, "history")
	is(t, "in no list", w.Locals.Len(), 0)
	well, e := w.Factory.Prove(1)
	is(t, "of the script one is gone", well || e != api.OK, false)
}

// P20.1: what is dead is closed, though it was proved.
func TestProvesDead(t *testing.T) {
	w := scripted(t, keep(), nil, []bool{false}, word.Free, word.Free)
	h := until(t, w, Begin(6), "prove")
	h = steps(t, w, h, "give", 1, "bag")
	entry(t, w, bag.Entry{ID: 1, Word: word.Of(word.Reserved, 1), Proved: 7})
	closes(t, w, h, "load")
	w = scripted(t, keep(), nil, []bool{false}, word.Free)
	w.Factory.Close(1) // by another one: it can't be proved any more
	h = until(t, w, Begin(6), "prove")
	h = steps(t, w, h, "give", 1, "bag")
	h = steps(t, w, h, "give", 0, "bag", "history")
	h = steps(t, w, h, "give", 0, "list")
	steps(t, w, h, "refill", 0, "live")
}

// P20.1: who parked since it was reserved is handed it behind that.
func TestProvesWhileSomebodyWaits(t *testing.T) {
	w := of(t, keep(), word.Free, word.InUse)
	h := until(t, w, Begin(6), "unres")
	w.Slots.Park(2, 99)
	h = steps(t, w, h, "give", 0, "bag")
	h = steps(t, w, h, "give", 0) // to back
	h = steps(t, w, h, "give", 1, "bag")
	h = steps(t, w, h, "load", 0, "slots")
	are(t, "handed", w.Slots.All(), slots.Slot{Thread: 2, Deadline: 99, ID: 1})
	is(t, "its word", stateOf(w, 1), word.InUse)
	steps(t, w, h, "refill", 0)
}

// P20.1: who is handed it may be gone by then: it is free, and in the thread's
// list.
func TestProvesWhoLeft(t *testing.T) {
	w := of(t, keep(), word.Free)
	h := until(t, w, Begin(6), "unres")
	w.Slots.Park(2, 99)
	h = steps(t, w, h, "give", 0, "bag")
	h = steps(t, w, h, "give", 0)        // to back
	h = steps(t, w, h, "give", 1, "bag") // to offer
	w.Slots.Take(2)
	h = steps(t, w, h, "give", 1)           // to free
	h = steps(t, w, h, "give", 0, "bag")    // to stash
	h = steps(t, w, h, "give", 0, "locals") // to again
	steps(t, w, h, "refill", 0)
	are(t, "the list", w.Locals.All(6), 1)
	is(t, "its word", stateOf(w, 1), word.Free)
}

// P20.1: proved, and closed all the same, as the world is since.
func TestProvesTooLate(t *testing.T) {
	w := of(t, keep(), word.Free)
	h := until(t, w, Begin(6), "unres")
	w.Closed = true
	h = steps(t, w, h, "give", 0, "bag")
	h = steps(t, w, h, "give", 0) // to back
	h = steps(t, w, h, "give", 1, "bag")
	h = steps(t, w, h, "give", 1) // to close
	closes(t, w, h, "refill")
}

// P20.1: what isn't Reserved any more is let go, whoever waits.
func TestOthersMeddle(t *testing.T) {
	for _, state := range []int{word.InUse, word.Removed, word.Free} {
		w := of(t, keep(), word.Free)
		h := until(t, w, Begin(6), "unres")
		swapTo(t, w, 1, state)
		h = steps(t, w, h, "give", 0)
		w.Slots.Park(2, 99)
		h = steps(t, w, h, "give", 0) // to back
		steps(t, w, h, "refill", 0)
		is(t, "its state", stateOf(w, 1), state)
	}
}

// P20.1: what was held too long is flagged, now, whether it is closed or not.
func TestLeaks(t *testing.T) {
	for _, closed := range []bool{false, true} {
		w := of(t, conf.Conf{Max: 9, Leak: 4}, word.InUse, word.InUse, word.InUse)
		w.Closed = closed
		w.Lease(3, 0)
		w.Lease(1, 5)
		w.Tick(1)
		w.Lease(2, 5)
		w.Tick(2)
		h := until(t, w, Begin(6), "leaks")
		w.Tick(1)
		steps(t, w, h, "done", 0, "book", "history")
		are(t, "flagged", w.Book.Flagged(), 1, 3)
		is(t, "timers", w.Book.Timers(), 1)
		are(t, "recorded", w.History.All(), event(hist.Point, 0))
	}
}

// P20.1: carried is its own id where it has reserved it, and that of its
// giving.
func TestCarries(t *testing.T) {
	for state := range acts() {
		want := uint64(0)
		if slices.Contains([]string{"prove", "unres", "publish"}, state) {
			want = 5
		}
		for _, of := range []string{"offer", "free", "stash", "again", "back", "close", "unlist", "shrink", "done"} {
			h := House{id: 5, state: state, giving: give.Give{ID: 5, State: of}}
			if state == "give" {
				want = 0
				if slices.Contains([]string{"offer", "free", "close"}, of) {
					want = 5
				}
			}
			is(t, "of "+state+", "+of, h.Carries(), want)
		}
	}
	is(t, "done", House{id: 5, state: "done"}.Carries(), 0)
}

// P20.1: of no thread's number it does what it does of any.
func TestOfNoThread(t *testing.T) {
	for _, thread := range []int{-1, 8} {
		c := keep()
		c.MinIdle = 2
		w := scripted(t, c, nil, []bool{false}, word.Free)
		until(t, w, Begin(thread), "done")
		are(t, "listed", w.Bag.List().All(), 2, 3)
		are(t, "recorded", w.History.All(),
			hist.Event{Thread: thread, Kind: hist.Retire, Op: hist.House, ID: 1},
			hist.Event{Thread: thread, Kind: hist.Point, Op: hist.House})
	}
}

// P20.1: a round is a value: of one that was kept a step does the same in a
// clone.
func TestKept(t *testing.T) {
	c := keep()
	c.MinIdle = 3
	w := scripted(t, c, nil, []bool{true, false}, word.Free, word.Free, word.InUse)
	h := Begin(6)
	for range 40 {
		was, one, other := tell(w), w.Clone(), w.Clone()
		is(t, "in two clones", fmt.Sprintf("%+v", h.Step(one)), fmt.Sprintf("%+v", h.Step(other)))
		are(t, "the clones", changed(one, tell(other)))
		are(t, "the world itself", changed(w, was))
		h = h.Step(w)
	}
	is(t, "done", h.Done(), true)
}

// entry: what the bag has of an id is that, or a test fails.
func entry(t *testing.T, w *world.World, want bag.Entry) {
	t.Helper()
	got, _ := w.Bag.Entry(want.ID)
	is(t, "the entry", got, want)
}

// some: so many that go well or not.
func some(r *rand.Rand, n int) []bool {
	out := make([]bool, n)
	for i := range out {
		out[i] = r.Intn(3) > 0
	}
	return out
}

// anyConf: some configuration.
func anyConf(r *rand.Rand) conf.Conf {
	most := 1 + r.Intn(6)
	c := conf.Conf{Max: most, MinIdle: r.Intn(most + 1), Leak: uint64(r.Intn(9)), Variance: float64(r.Intn(3)) / 2}
	for _, ticks := range []*uint64{&c.Idle, &c.Life, &c.Keep} {
		*ticks = uint64(r.Intn(3) * r.Intn(12))
	}
	return c
}

// anyWorld: some world at some tick, whose factory has these scripts yet.
func anyWorld(r *rand.Rand, opens, proofs []bool) *world.World {
	c := anyConf(r)
	n := r.Intn(c.Max + 1)
	w, _ := world.New(c, append(slices.Repeat([]bool{true}, n), opens...), proofs)
	for range n {
		w.Grow()
		id, _ := w.Factory.Open()
		w.Bag.Enter(id, word.InUse, w.Now())
		w.Tick(uint64(r.Intn(5)))
		w.Bag.Proved(id, w.Now())
		w.Tick(uint64(r.Intn(5)))
		if r.Intn(4) > 0 {
			w.Bag.Swap(id, word.Of(word.InUse, 0), word.Free, w.Now())
		}
		if r.Intn(8) > 0 {
			w.Publish(id)
		}
	}
	w.Tick(uint64(r.Intn(5)))
	w.Closed = r.Intn(6) == 0
	return w
}

// model: a round that has the whole world for itself, as the chapter's follows
// says it.
type model struct {
	w             *world.World
	opens, proofs []bool
	closed        []uint64
}

// keeps: what is due is done with all that are listed and free, and then it
// fills up.
func (m *model) keeps() {
	for _, id := range m.w.Bag.List().All() {
		if stateOf(m.w, id) != word.Free {
			continue
		}
		switch m.w.Due(id) {
		case conf.None:
		case conf.Prove:
			m.proves(id)
		default:
			m.closes(id)
		}
	}
	for !m.w.Closed && m.w.Live < m.w.Conf.MinIdle && m.fills() {
	}
}

// proves: it is free from now on, or closed.
func (m *model) proves(id uint64) {
	well := m.proofs[0]
	m.proofs = m.proofs[1:]
	m.w.Bag.Proved(id, m.w.Now())
	if !well {
		m.closes(id)
		return
	}
	x, _ := m.w.Bag.Load(id)
	x, _ = m.w.Bag.Swap(id, x, word.Reserved, m.w.Now())
	m.w.Bag.Swap(id, x, word.Free, m.w.Now())
}

// closes: it is gone.
func (m *model) closes(id uint64) {
	x, _ := m.w.Bag.Load(id)
	x, _ = m.w.Bag.Swap(id, x, word.Reserved, m.w.Now())
	m.w.Bag.Swap(id, x, word.Removed, m.w.Now())
	m.w.Bag.Unlist(id)
	m.w.Shrink()
	m.closed = append(m.closed, id)
}

// fills: one more; false, where it can't be opened.
func (m *model) fills() bool {
	well := m.opens[0]
	m.opens = m.opens[1:]
	if !well {
		return false
	}
	id := m.w.Factory.Opened() + 1
	for _, had := range m.w.Bag.IDs() {
		id = max(id, had+1)
	}
	m.w.Grow()
	m.w.Bag.Enter(id, word.Reserved, m.w.Now())
	m.w.Publish(id)
	m.w.Bag.Swap(id, word.Of(word.Reserved, 0), word.Free, m.w.Now())
	return true
}

// P20.1, P20.2: a round that has the world for itself does just what is due,
// in order; behind it nothing is due with what is listed and free.
func TestAlone(t *testing.T) {
	r := rand.New(rand.NewSource(20))
	for range 5000 {
		opens, proofs := some(r, 8), some(r, 8)
		w := anyWorld(r, opens, proofs)
		m := &model{w: w.Clone(), opens: opens, proofs: proofs}
		m.keeps()
		until(t, w, Begin(6), "done")
		want, got := tell(m.w), tell(w)
		for _, part := range []string{"bag", "list", "live", "locals", "slots"} {
			is(t, part, got[part], want[part])
		}
		var events []hist.Event
		for _, id := range m.closed {
			is(t, "open", w.Factory.IsOpen(id), false)
			events = append(events, event(hist.Retire, id))
		}
		are(t, "recorded", w.History.All(), append(events, event(hist.Point, 0))...)
		for _, id := range w.Bag.List().All() {
			if !w.Closed && stateOf(w, id) == word.Free && w.Due(id) != conf.None {
				t.Fatalf("%d is due for %d: %v", id, w.Due(id), got)
			}
		}
	}
}

// run: threads that get, put, mark and keep house, in a world.
type run struct {
	t      *testing.T
	r      *rand.Rand
	w      *world.World
	proofs []bool // what is left of them
	gets   map[int]mget.Get
	puts   map[int]mput.Put
	houses map[int]House
}

// begin: a call of the thread.
func (x *run) begin(thread int) {
	held := x.w.Book.Held(thread)
	switch k := x.r.Intn(10); {
	case k < 3:
		x.houses[thread] = Begin(thread)
	case k < 7 && len(held) > 0:
		id := held[x.r.Intn(len(held))]
		if k == 3 {
			mput.Evict(x.w, thread, id)
		}
		x.puts[thread] = mput.Begin(thread, id)
	default:
		x.gets[thread] = mget.Begin(thread, x.w.Now()+uint64(x.r.Intn(5)))
	}
}

// step: one of the thread's; false, where it has nothing under way.
func (x *run) step(thread int) bool {
	if g, ok := x.gets[thread]; ok {
		x.gets[thread] = g.Step(x.w)
		if x.gets[thread].Done() {
			delete(x.gets, thread)
		}
		return true
	}
	if p, ok := x.puts[thread]; ok {
		x.puts[thread] = p.Step(x.w)
		if x.puts[thread].Done() {
			delete(x.puts, thread)
		}
		return true
	}
	h, ok := x.houses[thread]
	if ok {
		x.house(thread, h)
	}
	return ok
}

// house: a step of a round, which reserves and closes for a reason, or a test
// fails.
func (x *run) house(thread int, h House) {
	was := x.w.Clone()
	next := h.Step(x.w)
	x.houses[thread] = next
	if next.Done() {
		delete(x.houses, thread)
	}
	for _, id := range x.w.Bag.IDs() {
		had := stateOf(was, id)
		if stateOf(x.w, id) != word.Reserved || had == word.Reserved || had == -1 && h.state == "open" {
			continue
		}
		if had != word.Free || was.Due(id) == conf.None {
			x.t.Errorf("%d was in %d, due for %d, and is reserved", id, had, was.Due(id))
		}
	}
	shut := func(h House) bool { return h.state == "give" && h.giving.State == "close" }
	if shut(next) && !shut(h) && !x.reason(was, h) {
		x.t.Errorf("%d is to be closed, in %s, for no reason", h.id, h.state)
	}
	if h.state == "prove" {
		x.proofs = x.proofs[1:]
	}
}

// reason: may a round close what it has?
func (x *run) reason(was *world.World, h House) bool {
	due := was.Due(h.id)
	switch h.state {
	case "swap":
		return due != conf.None && due != conf.Prove
	case "prove":
		return !x.proofs[0]
	case "publish":
		return was.Closed
	}
	return was.Closed || was.Book.Marked(h.id)
}

// where: in how many ways an id is somewhere.
func (x *run) where(id uint64) int {
	_, leased := x.w.Book.Holder(id)
	ways := []bool{stateOf(x.w, id) == word.Free, leased, !x.w.Factory.IsOpen(id)}
	for _, s := range x.w.Slots.All() {
		ways = append(ways, s.ID == id)
	}
	for thread := range 4 {
		for _, carried := range []uint64{x.gets[thread].Carries(), x.puts[thread].Carries(), x.houses[thread].Carries()} {
			ways = append(ways, carried == id)
		}
	}
	n := 0
	for _, holds := range ways {
		if holds {
			n++
		}
	}
	return n
}

// P20.1, P20.2: whoever's turn it is, each id is in just one place; a round
// reserves only what is free and due, and closes for a reason; no more are open
// than Max; and all come to their end.
func TestWhoeversTurn(t *testing.T) {
	r := rand.New(rand.NewSource(21))
	for range 400 {
		proofs := some(r, 400)
		w, _ := world.New(anyConf(r), some(r, 20), proofs)
		x := &run{t, r, w, proofs, map[int]mget.Get{}, map[int]mput.Put{}, map[int]House{}}
		for range 300 {
			thread := r.Intn(4)
			if !x.step(thread) {
				x.begin(thread)
			}
			if r.Intn(8) == 0 {
				w.Tick(1)
			}
			w.Closed = w.Closed || r.Intn(400) == 0
			for id := uint64(1); id <= w.Factory.Opened(); id++ {
				if n := x.where(id); n != 1 {
					t.Fatalf("%d is in %d places: %v", id, n, tell(w))
				}
			}
			if w.Live > w.Conf.Max || len(w.Factory.IDs()) > w.Conf.Max {
				t.Fatalf("%d are live, of %d", w.Live, w.Conf.Max)
			}
		}
		w.Tick(9)
		for thread := range 4 {
			for i := 0; i < 500 && x.step(thread); i++ {
			}
		}
		is(t, "under way yet", len(x.gets)+len(x.puts)+len(x.houses), 0)
	}
}
