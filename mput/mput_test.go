package mput

import (
	"fmt"
	"math/rand"
	"slices"
	"testing"

	"hackney/api"
	"hackney/conf"
	"hackney/give"
	"hackney/hist"
	"hackney/mget"
	"hackney/slots"
	"hackney/word"
	"hackney/world"
)

// is: it was wanted so, or a test fails.
func is[T comparable](t *testing.T, what string, got, want T) {
	t.Helper()
	if got != want {
		t.Errorf("%s: %v, wanted %v", what, got, want)
	}
}

// are: just these, in that order, or a test fails.
func are[T comparable](t *testing.T, what string, got []T, want ...T) {
	t.Helper()
	if !slices.Equal(got, want) {
		t.Errorf("%s: %v, wanted %v", what, got, want)
	}
}

// tell: a world's parts, each as a text.
func tell(w *world.World) map[string]string {
	entries, lists, leases := "", "", fmt.Sprint(w.Book.Flagged(), w.Book.Timers(), w.Book.Len())
	for _, id := range w.Bag.IDs() {
		x, _ := w.Bag.Entry(id)
		entries += fmt.Sprint(x)
	}
	for id := range uint64(20) {
		since, _ := w.Book.Since(id)
		leases += fmt.Sprint(w.Book.Marked(id), since)
	}
	for thread := range api.MaxThreads {
		lists += fmt.Sprint(w.Locals.All(thread))
		leases += fmt.Sprint(w.Book.Held(thread))
	}
	return map[string]string{
		"bag":     entries,
		"list":    fmt.Sprint(w.Bag.List().All()),
		"locals":  lists,
		"slots":   fmt.Sprint(w.Slots.All()),
		"book":    leases,
		"factory": fmt.Sprint(w.Factory.IDs(), w.Factory.Opened(), w.Factory.Closed()),
		"history": fmt.Sprint(w.History.Now(), w.History.All()),
		"live":    fmt.Sprint(w.Live),
		"rest":    fmt.Sprint(w.Conf, w.Now(), w.Closed),
	}
}

// changed: which parts aren't as they were, by name, in order.
func changed(w *world.World, was map[string]string) []string {
	var out []string
	for part, now := range tell(w) {
		if was[part] != now {
			out = append(out, part)
		}
	}
	slices.Sort(out)
	return out
}

// steps: a step, behind which it is in that state, carries that, and has not
// ended with an error, and just these parts of the world aren't as they were.
func steps(t *testing.T, w *world.World, p Put, state string, carries uint64, parts ...string) Put {
	t.Helper()
	was, self := tell(w), p
	next := p.Step(w)
	is(t, "behind "+p.state, next.State(), state)
	is(t, "done", next.Done(), state == "done")
	is(t, "its error", next.Err(), api.OK)
	is(t, "carries", next.Carries(), carries)
	is(t, "the putting that it was", p, self)
	are(t, "changed by "+p.state, changed(w, was), parts...)
	return next
}

// of: a world at the tick 7, with ids that are listed, and leased since then
// to the thread 5, whose flags are due 4 ticks behind that.
func of(t *testing.T, ids int) *world.World {
	t.Helper()
	w, e := world.New(conf.Conf{Max: api.MaxSize, Leak: 4}, nil, nil)
	if e != api.OK {
		t.Fatal(e)
	}
	w.Tick(7)
	for range ids {
		w.Grow()
		id, _ := w.Factory.Open()
		w.Bag.Enter(id, word.InUse, w.Now())
		w.Publish(id)
		w.Lease(id, 5)
	}
	w.History.Advance()
	return w
}

// point: what is recorded of a putting, or a marking.
func point(thread, op int, id uint64, e api.Errno) hist.Event {
	return hist.Event{Step: 1, Thread: thread, Kind: hist.Point, Op: op, ID: id, Err: e}
}

// load: the id's word.
func load(w *world.World, id uint64) word.Word {
	x, _ := w.Bag.Load(id)
	return x
}

// notHeld: threads, and ids that they don't hold, in the world of three ids
// of which the third is free.
var notHeld = []struct {
	thread int
	id     uint64
}{
	{0, 1}, {4, 2}, {5, 3}, {5, 4}, {5, 0}, {-1, 1}, {8, 1}, {5, 1<<64 - 1}, {1 << 40, 3},
}

// worldOfNotHeld: that world; somebody waits in it.
func worldOfNotHeld(t *testing.T) *world.World {
	w := of(t, 3)
	w.Book.End(3, 5)
	w.Bag.Swap(3, 1, word.Free, 7)
	w.Slots.Park(2, 9)
	return w
}

// P19.1: it begins in the state start, and carries nothing.
func TestBegin(t *testing.T) {
	for _, thread := range []int{0, 7, -1, 8} {
		for _, id := range []uint64{0, 1, 1<<64 - 1} {
			p := Begin(thread, id)
			is(t, "state", p.State(), "start")
			is(t, "done", p.Done(), false)
			is(t, "error", p.Err(), api.OK)
			is(t, "carries", p.Carries(), 0)
		}
	}
}

// P19.1: of a nil world it is the same, in whatever state.
func TestOfNil(t *testing.T) {
	w := of(t, 1)
	for _, p := range []Put{Begin(5, 1), Begin(4, 1)} {
		for range 7 {
			is(t, "of a nil world", p.Step(nil), p)
			p = p.Step(w)
		}
		is(t, "done", p.Done(), true)
	}
	is(t, "nothing", Put{}.Step(nil), Put{})
	is(t, "nothing", steps(t, w, Put{}, "", 0), Put{})
}

// P19.1: where nobody waits it is free, and stands in the thread's list.
func TestPut(t *testing.T) {
	w := of(t, 2)
	w.Locals.Put(5, 9)
	w.Tick(2)
	p := steps(t, w, Begin(5, 2), "give", 2, "book", "history")
	are(t, "held", w.Book.Held(5), 1)
	is(t, "timers", w.Book.Timers(), 1)
	are(t, "recorded", w.History.All(), point(5, hist.Put, 2, api.OK))
	is(t, "its word", load(w, 2), word.Of(word.InUse, 0))
	p = steps(t, w, p, "give", 2) // to free
	p = steps(t, w, p, "give", 0, "bag")
	x, _ := w.Bag.Entry(2)
	is(t, "its word", x.Word, word.Of(word.Free, 1))
	is(t, "free since", x.Since, 9)
	p = steps(t, w, p, "give", 0, "locals")
	are(t, "the list", w.Locals.All(5), 9, 2)
	p = steps(t, w, p, "done", 0)
	is(t, "a step more", steps(t, w, p, "done", 0), p)
	is(t, "the other one", load(w, 1), word.Of(word.InUse, 0))
}

// P19.1: with the lease its flag is gone.
func TestPutFlagged(t *testing.T) {
	w := of(t, 2)
	w.Tick(4)
	w.Book.Leaks(w.Now())
	are(t, "flagged", w.Book.Flagged(), 1, 2)
	steps(t, w, Begin(5, 1), "give", 1, "book", "history")
	are(t, "flagged", w.Book.Flagged(), 2)
}

// P19.1: who waits is handed it.
func TestPutHanded(t *testing.T) {
	w := of(t, 2)
	w.Slots.Park(3, 9)
	w.Slots.Park(1, 8)
	p := steps(t, w, Begin(5, 2), "give", 2, "book", "history")
	steps(t, w, p, "done", 0, "slots")
	are(t, "handed", w.Slots.All(), slots.Slot{Thread: 3, Deadline: 9, ID: 2}, slots.Slot{Thread: 1, Deadline: 8})
	is(t, "its word", load(w, 2), word.Of(word.InUse, 0))
}

// P19.1: who parked since it was offered is handed it, too.
func TestPutHandedLate(t *testing.T) {
	w := of(t, 1)
	p := steps(t, w, Begin(5, 1), "give", 1, "book", "history")
	p = steps(t, w, p, "give", 1)
	w.Slots.Park(3, 9)
	p = steps(t, w, p, "give", 0, "bag")
	p = steps(t, w, p, "give", 0, "locals")
	p = steps(t, w, p, "give", 0) // to back
	p = steps(t, w, p, "give", 1, "bag")
	steps(t, w, p, "done", 0, "slots")
	are(t, "handed", w.Slots.All(), slots.Slot{Thread: 3, Deadline: 9, ID: 1})
}

// P19.1: what is marked, or of a world that is closed, is closed, by the thread
// and Put.
func TestPutClosed(t *testing.T) {
	for _, marked := range []bool{false, true} {
		w := of(t, 2)
		w.Closed = !marked
		if marked {
			is(t, "marked", Evict(w, 5, 2), api.OK)
		}
		w.Slots.Park(3, 9)
		before := len(w.History.All())
		p := steps(t, w, Begin(5, 2), "give", 2, "book", "history")
		p = steps(t, w, p, "give", 2) // to close
		parts := []string{"bag", "factory", "history"}
		if marked { // the book forgets the mark
			parts = []string{"bag", "book", "factory", "history"}
		}
		p = steps(t, w, p, "give", 0, parts...)
		p = steps(t, w, p, "give", 0, "list")
		steps(t, w, p, "done", 0, "live")
		retired := hist.Event{Step: 1, Thread: 5, Kind: hist.Retire, Op: hist.Put, ID: 2}
		are(t, "recorded", w.History.All()[before:], point(5, hist.Put, 2, api.OK), retired)
		are(t, "open", w.Factory.IDs(), 1)
		are(t, "listed", w.Bag.List().All(), 1)
		is(t, "live", w.Live, 1)
	}
}

// P19.1: its word is that which the bag has when it is put.
func TestPutOfAnotherWord(t *testing.T) {
	w := of(t, 1)
	w.Bag.Swap(1, 1, word.Free, 7)
	w.Bag.Swap(1, 4, word.InUse, 7)
	is(t, "its word", load(w, 1), word.Of(word.InUse, 2))
	p := steps(t, w, Begin(5, 1), "give", 1, "book", "history")
	p = steps(t, w, p, "give", 1)
	steps(t, w, p, "give", 0, "bag")
	is(t, "its word", load(w, 1), word.Of(word.Free, 3))
}

// P19.1: what somebody else made free is done with; so is what never entered.
func TestPutOfWhatIsGone(t *testing.T) {
	w := of(t, 1)
	w.Bag.Swap(1, 1, word.Free, 7)
	p := steps(t, w, Begin(5, 1), "give", 1, "book", "history")
	p = steps(t, w, p, "give", 1)
	steps(t, w, p, "done", 0)
	w.Lease(17, 2)
	p = steps(t, w, Begin(2, 17), "give", 17, "book", "history")
	p = steps(t, w, p, "give", 17)
	steps(t, w, p, "done", 0)
}

// P19.1, P19.2: who doesn't hold it has ErrNotHeld, and changes nothing but
// that it is recorded.
func TestPutNotHeld(t *testing.T) {
	for _, x := range notHeld {
		w := worldOfNotHeld(t)
		was, begun := tell(w), Begin(x.thread, x.id)
		p := begun.Step(w)
		is(t, "state", p.State(), "done")
		is(t, "done", p.Done(), true)
		is(t, "error", p.Err(), api.ErrNotHeld)
		is(t, "carries", p.Carries(), 0)
		is(t, "the one that it was", begun.Err(), api.OK)
		are(t, "changed", changed(w, was), "history")
		are(t, "recorded", w.History.All(), point(x.thread, hist.Put, x.id, api.ErrNotHeld))
		was = tell(w)
		is(t, "a step more", p.Step(w), p)
		are(t, "changed by a step more", changed(w, was))
	}
}

// P19.1, P19.2: a second putting is one of who doesn't hold it.
func TestPutTwice(t *testing.T) {
	w := of(t, 1)
	first, second := Begin(5, 1), Begin(5, 1)
	first = steps(t, w, first, "give", 1, "book", "history")
	was := tell(w)
	second = second.Step(w)
	is(t, "the second one's error", second.Err(), api.ErrNotHeld)
	are(t, "changed by the second one", changed(w, was), "history")
	for range 4 {
		first = first.Step(w)
	}
	is(t, "the first one is done", first.Done(), true)
	is(t, "the first one's error", first.Err(), api.OK)
	is(t, "its word", load(w, 1), word.Of(word.Free, 1))
}

// P19.1: its state is give, and what it carries that of its giving, in no
// other state.
func TestCarries(t *testing.T) {
	for _, state := range []string{"start", "give", "done", ""} {
		for _, of := range []string{"offer", "free", "stash", "again", "back", "close", "unlist", "shrink", "done"} {
			p := Put{thread: 1, id: 5, state: state, giving: give.Give{ID: 5, State: of}}
			want := uint64(0)
			if state == "give" && slices.Contains([]string{"offer", "free", "close"}, of) {
				want = 5
			}
			is(t, "of "+state+", "+of, p.Carries(), want)
		}
	}
}

// P19.1: a putting is a value: of one that was kept a step does the same in a
// clone.
func TestKept(t *testing.T) {
	w := of(t, 1)
	p := Begin(5, 1)
	for range 6 {
		was, one, other := tell(w), w.Clone(), w.Clone()
		is(t, "in two clones", p.Step(one), p.Step(other))
		are(t, "the clones", changed(one, tell(other)))
		are(t, "the world itself", changed(w, was))
		p = p.Step(w)
	}
	is(t, "done", p.Done(), true)
}

// P19.1: marked is what the thread holds, whether it was marked or not.
func TestEvict(t *testing.T) {
	w := of(t, 2)
	was := tell(w)
	is(t, "marked", Evict(w, 5, 2), api.OK)
	are(t, "changed", changed(w, was), "book", "history")
	is(t, "it is marked", w.Book.Marked(2), true)
	is(t, "the other one is", w.Book.Marked(1), false)
	are(t, "recorded", w.History.All(), point(5, hist.Evict, 2, api.OK))
	was = tell(w)
	is(t, "marked twice", Evict(w, 5, 2), api.OK)
	are(t, "changed", changed(w, was), "history")
	are(t, "held yet", w.Book.Held(5), 1, 2)
}

// P19.1, P19.2: who doesn't hold it marks nothing; but it is recorded.
func TestEvictNotHeld(t *testing.T) {
	for _, x := range notHeld {
		w := worldOfNotHeld(t)
		was := tell(w)
		is(t, "marked", Evict(w, x.thread, x.id), api.ErrNotHeld)
		are(t, "changed", changed(w, was), "history")
		are(t, "recorded", w.History.All(), point(x.thread, hist.Evict, x.id, api.ErrNotHeld))
	}
	is(t, "of a nil world", Evict(nil, 0, 1), api.ErrNil)
	is(t, "of a nil world", Evict(nil, -1, 0), api.ErrNil)
}

// run: threads that get, put and mark, in a world.
type run struct {
	t    *testing.T
	r    *rand.Rand
	w    *world.World
	gets map[int]mget.Get // what is under way
	puts map[int]Put
}

// begin: a call of the thread; what it puts or marks may be another one's.
func (x *run) begin(thread int) {
	id := uint64(x.r.Intn(6))
	switch x.r.Intn(4) {
	case 0:
		x.mark(thread, id)
	case 1:
		x.gets[thread] = mget.Begin(thread, x.w.Now()+uint64(x.r.Intn(5)))
	default:
		x.puts[thread] = Begin(thread, id)
	}
}

// mark: it answers as it should, or a test fails.
func (x *run) mark(thread int, id uint64) {
	holder, leased := x.w.Book.Holder(id)
	was := tell(x.w)
	e := Evict(x.w, thread, id)
	if leased && holder == thread {
		is(x.t, "marked by its holder", e, api.OK)
		is(x.t, "marked", x.w.Book.Marked(id), true)
		return
	}
	is(x.t, "marked by another one", e, api.ErrNotHeld)
	are(x.t, "changed by another one", changed(x.w, was), "history")
}

// put: a step of a putting, which answers as it should, or a test fails.
func (x *run) put(thread int) {
	p := x.puts[thread]
	holder, leased := x.w.Book.Holder(p.id)
	was := tell(x.w)
	next := p.Step(x.w)
	x.puts[thread] = next
	if next.Done() {
		delete(x.puts, thread)
	}
	switch {
	case p.State() != "start":
		is(x.t, "an error behind the start", next.Err(), api.OK)
	case leased && holder == thread:
		is(x.t, "put by its holder", next.Err(), api.OK)
		is(x.t, "carried", next.Carries(), p.id)
	default:
		is(x.t, "put by another one", next.Err(), api.ErrNotHeld)
		is(x.t, "done", next.Done(), true)
		are(x.t, "changed by another one", changed(x.w, was), "history")
	}
}

// step: one of the thread's; false, where it has nothing under way.
func (x *run) step(thread int) bool {
	if _, ok := x.puts[thread]; ok {
		x.put(thread)
		return true
	}
	g, ok := x.gets[thread]
	if ok {
		x.gets[thread] = g.Step(x.w)
		if x.gets[thread].Done() {
			delete(x.gets, thread)
		}
	}
	return ok
}

// where: in how many ways an id is somewhere.
func (x *run) where(id uint64) int {
	_, leased := x.w.Book.Holder(id)
	n := 0
	for _, holds := range []bool{load(x.w, id).State() == word.Free, leased, !x.w.Factory.IsOpen(id)} {
		if holds {
			n++
		}
	}
	for _, s := range x.w.Slots.All() {
		if s.ID == id {
			n++
		}
	}
	for _, g := range x.gets {
		if g.Carries() == id {
			n++
		}
	}
	for _, p := range x.puts {
		if p.Carries() == id {
			n++
		}
	}
	return n
}

// P19.1, P19.2: whoever's turn it is, each id is in just one place; who holds
// it alone may put and mark it; what was put is let go; and each putting comes
// to its end.
func TestWhoeversTurn(t *testing.T) {
	r := rand.New(rand.NewSource(19))
	for range 200 {
		w, _ := world.New(conf.Conf{Max: 1 + r.Intn(4)}, nil, nil)
		x := &run{t, r, w, map[int]mget.Get{}, map[int]Put{}}
		for range 300 {
			thread := r.Intn(4)
			if !x.step(thread) {
				x.begin(thread)
			}
			if r.Intn(12) == 0 {
				w.Tick(1)
			}
			w.Closed = w.Closed || r.Intn(400) == 0
			for id := uint64(1); id <= w.Factory.Opened(); id++ {
				if n := x.where(id); n != 1 {
					t.Fatalf("%d is in %d places: %v", id, n, tell(w))
				}
			}
		}
		w.Tick(9)
		for thread := range 4 {
			for i := 0; i < 200 && x.step(thread); i++ {
			}
		}
		is(t, "under way yet", len(x.puts)+len(x.gets), 0)
		is(t, "slots", len(w.Slots.All()), 0)
	}
}
