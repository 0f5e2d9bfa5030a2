package cond

import (
	"fmt"
	"maps"
	"math"
	"slices"
	"testing"

	"hackney/api"
	"hackney/conf"
	"hackney/hist"
	"hackney/pool"
	"hackney/word"
	"hackney/world"
)

// is: it was wanted so, or a test fails.
func is[T comparable](t *testing.T, what string, got, want T) {
	t.Helper()
	if got != want {
		t.Errorf("%s: %v, wanted %v", what, got, want)
	}
}

// are: just these, in that order, or a test fails.
func are[T comparable](t *testing.T, what string, got []T, want ...T) {
	t.Helper()
	if !slices.Equal(got, want) {
		t.Errorf("%s: %v, wanted %v", what, got, want)
	}
}

// of: a new pool.
func of(t *testing.T, c conf.Conf, threads int) *pool.Pool {
	t.Helper()
	p, e := pool.New(c, threads, nil, nil)
	if e != api.OK {
		t.Fatal(e)
	}
	return p
}

// calls: a call that is not refused.
func calls(t *testing.T, p *pool.Pool, thread, op int, id, timeout uint64) {
	t.Helper()
	is(t, "the call", p.Call(thread, op, id, timeout), api.OK)
}

// does: a call, from its beginning to its end.
func does(t *testing.T, p *pool.Pool, thread, op int, id, timeout uint64) {
	t.Helper()
	calls(t, p, thread, op, id, timeout)
	until(t, p, thread, "idle")
}

// until: steps of the thread's call till it is in that state.
func until(t *testing.T, p *pool.Pool, thread int, state string) {
	t.Helper()
	for range 300 {
		if p.State(thread) == state {
			return
		}
		p.Step(thread)
	}
	t.Fatalf("never in %s, but in %s", state, p.State(thread))
}

// tell: all that a pool tells.
func tell(p *pool.Pool) string {
	w := p.World()
	out := fmt.Sprintln(w.Conf, w.Now(), w.Live, w.Closed, w.Bag.List().All(), w.Slots.All())
	out += fmt.Sprintln(w.Factory.IDs(), w.Factory.Opened(), w.Factory.Closed())
	out += fmt.Sprintln(w.Book.Flagged(), w.Book.Timers(), w.Book.Len(), p.Threads(), p.Pending())
	for _, id := range w.Bag.IDs() {
		x, _ := w.Bag.Entry(id)
		out += fmt.Sprintln(x, w.Book.Marked(id))
	}
	for thread := range p.Threads() {
		id, e, ok := p.Result(thread)
		out += fmt.Sprintln(w.Locals.All(thread), w.Book.Held(thread), p.State(thread), p.Carries(thread), id, e, ok)
	}
	return out + fmt.Sprintln(w.History.Now(), w.History.All())
}

// just: the id is somewhere in that way alone, and all calls tell so.
func just(t *testing.T, p *pool.Pool, id uint64, way string) {
	t.Helper()
	are(t, "where", Where(p, id), way)
	is(t, "all", All(p)[id], way)
	is(t, "lost", slices.Contains(Lost(p), id), false)
	n := 0
	for _, x := range All(p) {
		if x == way {
			n++
		}
	}
	is(t, "count", Count(p, way), n)
}

// P25.1: what a Get opens is carried till it is leased; put back it is free.
func TestCarriedLeasedFree(t *testing.T) {
	p := of(t, conf.Conf{Max: 2}, 2)
	calls(t, p, 0, hist.Get, 0, 5)
	until(t, p, 0, "open")
	are(t, "ahead of its opening", Where(p, 1))
	is(t, "all", len(All(p)), 0)
	until(t, p, 0, "publish")
	just(t, p, 1, "carried")
	until(t, p, 0, "idle")
	just(t, p, 1, "leased")
	calls(t, p, 0, hist.Put, 1, 0)
	just(t, p, 1, "leased")
	p.Step(0)
	just(t, p, 1, "carried")
	until(t, p, 0, "idle")
	just(t, p, 1, "free")
	is(t, "free", Count(p, "free"), 1)
}

// P25.1: who waits is handed it: it is in the slot, till it is taken out.
func TestHanded(t *testing.T) {
	p := of(t, conf.Conf{Max: 1}, 2)
	does(t, p, 0, hist.Get, 0, 5)
	calls(t, p, 1, hist.Get, 0, 5)
	until(t, p, 1, "wait")
	just(t, p, 1, "leased")
	does(t, p, 0, hist.Put, 1, 0)
	just(t, p, 1, "handed")
	until(t, p, 1, "idle")
	just(t, p, 1, "leased")
}

// P25.1: what is put back marked is closed.
func TestClosed(t *testing.T) {
	p := of(t, conf.Conf{Max: 2}, 1)
	does(t, p, 0, hist.Get, 0, 5)
	does(t, p, 0, hist.Get, 0, 5)
	does(t, p, 0, hist.Evict, 1, 0)
	just(t, p, 1, "leased")
	does(t, p, 0, hist.Put, 1, 0)
	just(t, p, 1, "closed")
	just(t, p, 2, "leased")
	is(t, "closed", Count(p, "closed"), 1)
	is(t, "leased", Count(p, "leased"), 1)
	is(t, "free", Count(p, "free"), 0)
}

// P25.1: of ids that were never opened nothing holds, and no other word is a
// way.
func TestNoSuchIDNorWay(t *testing.T) {
	p := of(t, conf.Conf{Max: 2}, 2)
	for _, id := range []uint64{0, 1, math.MaxUint64} {
		are(t, "of a new pool", Where(p, id))
	}
	is(t, "all", len(All(p)), 0)
	are(t, "lost", Lost(p))
	does(t, p, 0, hist.Get, 0, 5)
	// A slot that isn't filled, and a call that carries nothing, have the id 0.
	calls(t, p, 1, hist.Get, 0, 5)
	for _, id := range []uint64{0, 2, math.MaxUint64} {
		are(t, "never opened", Where(p, id))
	}
	for _, way := range []string{"", "Leased", "leased ", "idle", "removed", "lost"} {
		is(t, way, Count(p, way), 0)
	}
}

// P25.1: 0 is in no way, though it stands in a slot that isn't filled.
func TestOfASlotThatWaits(t *testing.T) {
	p := of(t, conf.Conf{Max: 1}, 2)
	does(t, p, 0, hist.Get, 0, 5)
	calls(t, p, 1, hist.Get, 0, 5)
	until(t, p, 1, "wait")
	are(t, "0", Where(p, 0))
	are(t, "handed", []int{Count(p, "handed"), Count(p, "carried")}, 0, 0)
}

// P25.1, P25.2: of nil.
func TestOfNil(t *testing.T) {
	are(t, "where", Where(nil, 1))
	is(t, "all", len(All(nil)), 0)
	are(t, "lost", Lost(nil))
	is(t, "count", Count(nil, "leased"), 0)
	is(t, "count", Count(nil, ""), 0)
	is(t, "quiet", Quiet(nil), false)
}

// some: a world of which so many were opened.
func some(t *testing.T, n int) *world.World {
	t.Helper()
	w, e := world.New(conf.Conf{Max: 16, Leak: 5}, nil, nil)
	if e != api.OK {
		t.Fatal(e)
	}
	for range n {
		w.Factory.Open()
	}
	return w
}

// P25.1: what is in several ways is told in their order, and is lost, as what
// is in none is; neither is counted. (No pool has such ids.)
func TestLost(t *testing.T) {
	w := some(t, 6)
	for id, state := range map[uint64]int{1: word.Free, 2: word.InUse, 3: word.Reserved, 4: word.Removed, 6: word.Free} {
		w.Bag.Enter(id, state, 0)
	}
	w.Factory.Close(1)
	w.Factory.Close(5)
	w.Book.Begin(1, 3, 0)
	w.Book.Begin(6, 4, 0)
	for thread, id := range []uint64{1, 2, 6} {
		w.Slots.Park(thread, 9)
		w.Slots.Fill(id)
	}
	w.Slots.Park(7, 9) // isn't filled
	s := lay(w, []uint64{1, 0, 3, 3})
	are(t, "1", s.of(1), "free", "leased", "carried", "handed", "closed")
	are(t, "2", s.of(2), "handed")
	are(t, "3: carried by two", s.of(3), "carried")
	are(t, "4: removed, but open", s.of(4))
	are(t, "5", s.of(5), "closed")
	are(t, "6", s.of(6), "free", "leased", "handed")
	are(t, "0", s.of(0))
	are(t, "7", s.of(7))
	are(t, "lost", s.lost(), 1, 4, 6)
	if got := s.all(); !maps.Equal(got, map[uint64]string{2: "handed", 3: "carried", 5: "closed"}) {
		t.Errorf("all: %v", got)
	}
	if got := s.count(); !maps.Equal(got, map[string]int{"handed": 1, "carried": 1, "closed": 1}) {
		t.Errorf("count: %v", got)
	}
}

// Objects, Memory: to be asked changes nothing, and what is answered is one's
// own.
func TestNothingChanges(t *testing.T) {
	p := of(t, conf.Conf{Max: 2, Leak: 5}, 3)
	does(t, p, 0, hist.Get, 0, 5)
	calls(t, p, 1, hist.Get, 0, 5)
	until(t, p, 1, "publish")
	ahead := tell(p)
	words, all := Where(p, 1), All(p)
	words[0] = "gone"
	all[1], all[9] = "gone", "gone"
	Lost(p)
	Count(p, "free")
	Quiet(p)
	is(t, "what it tells", tell(p), ahead)
	just(t, p, 1, "leased")
	just(t, p, 2, "carried")
	is(t, "all", len(All(p)), 2)
}

// P25.2: a new pool isn't closed; closed it is quiet, till somebody calls.
func TestQuiet(t *testing.T) {
	p := of(t, conf.Conf{Max: 2, Leak: 5}, 2)
	is(t, "new", Quiet(p), false)
	does(t, p, 0, hist.Close, 0, 0)
	is(t, "closed", Quiet(p), true)
	calls(t, p, 1, hist.Get, 0, 5)
	is(t, "a call on its way", Quiet(p), false)
	until(t, p, 1, "idle")
	is(t, "done", Quiet(p), true)
	p.Tick(100)
	is(t, "later", Quiet(p), true)
}

// P25.2: what is held when all is closed is yet to be put back.
func TestQuietOnceItIsPutBack(t *testing.T) {
	p := of(t, conf.Conf{Max: 2, Leak: 5}, 2)
	does(t, p, 0, hist.Get, 0, 5)
	does(t, p, 1, hist.Close, 0, 0)
	is(t, "held", Quiet(p), false)
	calls(t, p, 0, hist.Put, 1, 0)
	for p.Step(0) {
		is(t, "quiet", Quiet(p), p.State(0) == "idle")
	}
	is(t, "put back", Quiet(p), true)
}

// P25.2: each thing that is left tells that it isn't over.
func TestOver(t *testing.T) {
	quiet := func() *world.World {
		w := some(t, 2)
		w.Factory.Close(1)
		w.Factory.Close(2)
		w.Bag.Enter(1, word.Removed, 0)
		w.Closed = true
		return w
	}
	is(t, "nothing is left", over(quiet()), true)
	for what, spoil := range map[string]func(w *world.World){
		"open":              func(w *world.World) { w.Factory.Open() },
		"a slot":            func(w *world.World) { w.Slots.Park(1, 9) },
		"a filled one":      func(w *world.World) { w.Slots.Park(1, 9); w.Slots.Fill(1) },
		"a lease":           func(w *world.World) { w.Book.Begin(1, 0, 0) },
		"one without timer": func(w *world.World) { w.Book.Begin(1, 0, 0); w.Book.Leaks(9) },
		"listed":            func(w *world.World) { w.Bag.Publish(1) },
		"live":              func(w *world.World) { w.Grow() },
		"not closed":        func(w *world.World) { w.Closed = false },
	} {
		w := quiet()
		spoil(w)
		is(t, what, over(w), false)
	}
}
