package give

import (
	"fmt"
	"math/rand"
	"slices"
	"testing"

	"hackney/api"
	"hackney/conf"
	"hackney/hist"
	"hackney/word"
	"hackney/world"
)

// states: all, and some that are none.
var states = []string{offer, free, stash, again, back, shut, unlist, shrink, done}

// is: it was wanted so, or a test fails.
func is[T comparable](t *testing.T, what string, got, want T) {
	t.Helper()
	if got != want {
		t.Errorf("%s: %v, wanted %v", what, got, want)
	}
}

// are: just these, in that order, or a test fails.
func are[T comparable](t *testing.T, what string, got []T, want ...T) {
	t.Helper()
	if !slices.Equal(got, want) {
		t.Errorf("%s: %v, wanted %v", what, got, want)
	}
}

// tell: a world's parts, each as a text.
func tell(w *world.World) map[string]string {
	entries := fmt.Sprint(w.Bag.List().All())
	for _, id := range w.Bag.IDs() {
		x, _ := w.Bag.Entry(id)
		entries += fmt.Sprint(x)
	}
	lists, leases := "", fmt.Sprint(w.Book.Flagged(), w.Book.Timers(), w.Book.Len())
	for thread := range api.MaxThreads {
		lists += fmt.Sprint(w.Locals.All(thread))
		leases += fmt.Sprint(w.Book.Held(thread))
	}
	for id := range uint64(20) {
		leases += fmt.Sprint(w.Book.Marked(id))
	}
	return map[string]string{
		"bag":     entries,
		"locals":  lists,
		"slots":   fmt.Sprint(w.Slots.All()),
		"book":    leases,
		"factory": fmt.Sprint(w.Factory.IDs(), w.Factory.Opened(), w.Factory.Closed()),
		"history": fmt.Sprint(w.History.Now(), w.History.All()),
		"live":    fmt.Sprint(w.Live),
		"rest":    fmt.Sprint(w.Conf, w.Now(), w.Closed),
	}
}

// changed: which parts aren't as they were, by name, in order.
func changed(w *world.World, was map[string]string) []string {
	var out []string
	for part, now := range tell(w) {
		if was[part] != now {
			out = append(out, part)
		}
	}
	slices.Sort(out)
	return out
}

// of: a world with so many ids, all InUse, listed, and leased by nobody.
func of(t *testing.T, ids int) *world.World {
	t.Helper()
	w, e := world.New(conf.Conf{Max: api.MaxSize}, nil, nil)
	if e != api.OK {
		t.Fatal(e)
	}
	w.Tick(3)
	for range ids {
		w.Grow()
		id, _ := w.Factory.Open()
		w.Bag.Enter(id, word.InUse, w.Now())
		w.Publish(id)
	}
	w.Tick(4)
	w.History.Advance()
	return w
}

// marks: the id is marked, and held by nobody.
func marks(w *world.World, id uint64) {
	w.Lease(id, 6)
	w.Book.Mark(id, 6)
	w.Book.End(id, 6)
}

// load: the id's word.
func load(w *world.World, id uint64) word.Word {
	x, _ := w.Bag.Load(id)
	return x
}

// steps: a step, behind which the giving is that, and just these parts of the
// world aren't as they were.
func steps(t *testing.T, w *world.World, g, want Give, parts ...string) Give {
	t.Helper()
	was, g0 := tell(w), g
	got := g.Step(w)
	is(t, "the giving behind a step", got, want)
	is(t, "the one that it was", g, g0)
	are(t, "changed by "+g.State, changed(w, was), parts...)
	return got
}

// path: the states through which a giving goes to its end.
func path(w *world.World, g Give) []string {
	out := []string{g.State}
	for range 40 {
		if g.Done() {
			break
		}
		g = g.Step(w)
		out = append(out, g.State)
	}
	return out
}

// P17.1: a giving of what was handed in, in its state; done is it in none of
// them.
func TestBegin(t *testing.T) {
	for _, thread := range []int{0, 5, -1, 8} {
		for _, op := range []int{hist.Get, hist.House, 77} {
			for _, id := range []uint64{0, 3, 1 << 63} {
				is(t, "offer", Offer(thread, op, id, 9), Give{Thread: thread, Op: op, ID: id, Word: 9, State: "offer"})
				is(t, "again", Again(thread, op, id, 8), Give{Thread: thread, Op: op, ID: id, Word: 8, State: "again"})
				is(t, "close", Close(thread, op, id, 1), Give{Thread: thread, Op: op, ID: id, Word: 1, State: "close"})
			}
		}
	}
	is(t, "offered, done", Offer(0, 1, 1, 1).Done(), false)
	is(t, "again, done", Again(0, 1, 1, 1).Done(), false)
	is(t, "to be closed, done", Close(0, 1, 1, 1).Done(), false)
}

// P17.1: done is it in that state alone.
func TestDone(t *testing.T) {
	for _, state := range append(states, "", "Done", "done ", "closed", "x") {
		is(t, "done in "+state, Give{State: state}.Done(), state == "done")
	}
}

// P17.1: of a nil world, or another state, nothing is done, and it is done.
func TestNothing(t *testing.T) {
	for _, state := range append(states, "", "Offer", "closed", "park") {
		g := Give{Thread: 2, Op: hist.Put, ID: 1, Word: 1, State: state}
		want := g
		want.State = "done"
		is(t, "of a nil world", g.Step(nil), want)
	}
	for _, state := range []string{"", "Offer", "closed", "park", "done"} {
		w := of(t, 2)
		g := Give{Thread: 2, Op: hist.Put, ID: 1, Word: 1, State: state}
		steps(t, w, g, Give{2, hist.Put, 1, 1, "done"})
	}
	is(t, "of nothing", Give{}.Step(nil), Give{State: "done"})
}

// P17.1: offered where nobody waits it is free, and stands in the thread's
// list.
func TestOffered(t *testing.T) {
	w := of(t, 2)
	g := Offer(4, hist.Put, 2, load(w, 2))
	g = steps(t, w, g, Give{4, hist.Put, 2, 1, "free"})
	g = steps(t, w, g, Give{4, hist.Put, 2, 4, "stash"}, "bag")
	x, _ := w.Bag.Entry(2)
	is(t, "its word", x.Word, word.Of(word.Free, 1))
	is(t, "free since", x.Since, 7)
	is(t, "the other one", load(w, 1), word.Of(word.InUse, 0))
	g = steps(t, w, g, Give{4, hist.Put, 2, 4, "again"}, "locals")
	are(t, "the thread's list", w.Locals.All(4), 2)
	g = steps(t, w, g, Give{4, hist.Put, 2, 4, "done"})
	steps(t, w, g, g)
}

// P17.1: who waits is handed it, the first one.
func TestHanded(t *testing.T) {
	w := of(t, 3)
	w.Slots.Park(2, 9)
	w.Slots.Park(1, 3)
	w.Slots.Park(3, 9)
	w.Slots.Fill(3)
	steps(t, w, Offer(0, hist.Put, 2, 1), Give{0, hist.Put, 2, 1, "done"}, "slots")
	s, _ := w.Slots.Of(1)
	is(t, "handed", s.ID, 2)
	steps(t, w, Offer(0, hist.Put, 1, 1), Give{0, hist.Put, 1, 1, "done"}, "slots")
	steps(t, w, Offer(0, hist.Put, 1, 1), Give{0, hist.Put, 1, 1, "free"})
	is(t, "its word", load(w, 2), word.Of(word.InUse, 0))
}

// P17.1: what is marked, or of a world that is closed, is to be closed,
// whoever waits.
func TestOfferedToBeClosed(t *testing.T) {
	for _, isMarked := range []bool{false, true} {
		for _, closed := range []bool{false, true} {
			for _, waits := range []bool{false, true} {
				w := of(t, 2)
				w.Closed = closed
				if isMarked {
					marks(w, 1)
				}
				if waits {
					w.Slots.Park(1, 9)
				}
				g := Offer(0, hist.Put, 1, 1)
				switch {
				case isMarked || closed:
					steps(t, w, g, Give{0, hist.Put, 1, 1, "close"})
				case waits:
					steps(t, w, g, Give{0, hist.Put, 1, 1, "done"}, "slots")
				default:
					steps(t, w, g, Give{0, hist.Put, 1, 1, "free"})
				}
			}
		}
	}
	w := of(t, 2)
	marks(w, 2)
	steps(t, w, Offer(0, hist.Put, 1, 1), Give{0, hist.Put, 1, 1, "free"})
}

// P17.1: where its word isn't that of the id it isn't freed, nor taken back.
func TestNotSwapped(t *testing.T) {
	cases := []struct {
		id uint64
		w  word.Word
	}{
		{1, 0}, {1, 2}, {1, 5}, {1, word.Of(word.InUse, 1)}, // another word
		{2, 0}, {2, 3}, {9, 1}, {0, 1}, {9, 0}, // from there it doesn't go on, or there is none
	}
	for _, x := range cases {
		w := of(t, 1)
		w.Bag.Enter(2, word.Removed, 0)
		for _, state := range []string{"free", "back"} {
			g := Give{5, hist.House, x.id, x.w, state}
			want := g
			want.State = "done"
			steps(t, w, g, want)
		}
	}
}

// P17.1: what is Reserved may be freed, and taken back, too.
func TestSwappedFromReserved(t *testing.T) {
	w := of(t, 0)
	w.Bag.Enter(3, word.Reserved, 0)
	g := Give{5, hist.House, 3, 2, "free"}
	steps(t, w.Clone(), g, Give{5, hist.House, 3, word.Of(word.Free, 1), "stash"}, "bag")
	g.State = "back"
	steps(t, w, g, Give{5, hist.House, 3, word.Of(word.InUse, 1), "offer"}, "bag")
}

// P17.1: it is put behind what the thread's list has, of which the first goes
// where there are too many.
func TestStash(t *testing.T) {
	w := of(t, 1)
	w.Locals.Put(2, 11, 12, 13)
	w.Locals.Put(3, 19)
	g := Give{2, hist.Get, 14, 0, "stash"}
	steps(t, w, g, Give{2, hist.Get, 14, 0, "again"}, "locals")
	are(t, "the list", w.Locals.All(2), 11, 12, 13, 14)
	g.ID = 15
	steps(t, w, g, Give{2, hist.Get, 15, 0, "again"}, "locals")
	are(t, "the list", w.Locals.All(2), 12, 13, 14, 15)
	are(t, "another one's", w.Locals.All(3), 19)
	for _, thread := range []int{-1, 8} {
		g := Give{thread, hist.Get, 1, 0, "stash"}
		steps(t, w, g, Give{thread, hist.Get, 1, 0, "again"})
	}
}

// P17.1: it is taken back where somebody waits, or the world is closed.
func TestAgain(t *testing.T) {
	for _, closed := range []bool{false, true} {
		for waiting := range 3 {
			w := of(t, 2)
			w.Bag.Swap(1, 1, word.Free, 7)
			w.Closed = closed
			w.Slots.Park(4, 9)
			w.Slots.Fill(2)
			for i := range waiting {
				w.Slots.Park(i, 9)
			}
			want := "done"
			if closed || waiting > 0 {
				want = "back"
			}
			steps(t, w, Again(3, hist.House, 1, 4), Give{3, hist.House, 1, 4, want})
		}
	}
}

// P17.1: taken back it is offered once more.
func TestBack(t *testing.T) {
	w := of(t, 1)
	w.Bag.Swap(1, 1, word.Free, 5)
	w.Slots.Park(6, 9)
	g := steps(t, w, Again(3, hist.House, 1, 4), Give{3, hist.House, 1, 4, "back"})
	g = steps(t, w, g, Give{3, hist.House, 1, word.Of(word.InUse, 2), "offer"}, "bag")
	x, _ := w.Bag.Entry(1)
	is(t, "its word", x.Word, word.Of(word.InUse, 2))
	is(t, "free since", x.Since, 5)
	steps(t, w, g, Give{3, hist.House, 1, word.Of(word.InUse, 2), "done"}, "slots")
	s, _ := w.Slots.Of(6)
	is(t, "handed", s.ID, 1)
}

// P17.1: closed it is by one step each: removed, unlisted, not live.
func TestClose(t *testing.T) {
	w := of(t, 3)
	marks(w, 2)
	g := Close(5, hist.House, 2, 1)
	g = steps(t, w, g, Give{5, hist.House, 2, 1, "unlist"}, "bag", "book", "factory", "history")
	is(t, "its word", load(w, 2).State(), word.Removed)
	is(t, "open", w.Factory.IsOpen(2), false)
	is(t, "marked", w.Book.Marked(2), false)
	are(t, "recorded", w.History.All(), hist.Event{Step: 1, Thread: 5, Kind: hist.Retire, Op: hist.House, ID: 2})
	are(t, "listed yet", w.Bag.List().All(), 1, 2, 3)
	g = steps(t, w, g, Give{5, hist.House, 2, 1, "shrink"}, "bag")
	are(t, "listed", w.Bag.List().All(), 1, 3)
	is(t, "live yet", w.Live, 3)
	g = steps(t, w, g, Give{5, hist.House, 2, 1, "done"}, "live")
	is(t, "live", w.Live, 2)
	steps(t, w, g, g)
}

// P17.1: what Remove answers isn't looked at: the steps behind it are taken
// all the same, and do what they can.
func TestCloseOfAnotherWord(t *testing.T) {
	w := of(t, 2)
	g := steps(t, w, Close(5, hist.Put, 1, 5), Give{5, hist.Put, 1, 5, "unlist"})
	g = steps(t, w, g, Give{5, hist.Put, 1, 5, "shrink"}, "bag")
	steps(t, w, g, Give{5, hist.Put, 1, 5, "done"}, "live")
	is(t, "open", w.Factory.IsOpen(1), true)
	g = steps(t, w, Close(5, hist.Put, 7, 1), Give{5, hist.Put, 7, 1, "unlist"})
	g = steps(t, w, g, Give{5, hist.Put, 7, 1, "shrink"})
	steps(t, w, g, Give{5, hist.Put, 7, 1, "done"}, "live")
	w.Live = 0
	steps(t, w, g, Give{5, hist.Put, 7, 1, "done"})
}

// P17.1: the whole way of each.
func TestPaths(t *testing.T) {
	w := of(t, 3)
	are(t, "nobody waits", path(w, Offer(0, hist.Put, 1, 1)), "offer", "free", "stash", "again", "done")
	are(t, "nobody waits", path(w, Again(0, hist.House, 1, 4)), "again", "done")
	w.Slots.Park(1, 9)
	are(t, "somebody waits", path(w, Offer(0, hist.Put, 2, 1)), "offer", "done")
	w.Slots.Park(2, 9)
	are(t, "somebody waits", path(w, Again(0, hist.House, 1, 4)), "again", "back", "offer", "done")
	w.Closed = true
	are(t, "closed", path(w, Offer(0, hist.Put, 3, 1)), "offer", "close", "unlist", "shrink", "done")
	w = of(t, 1)
	g := Offer(0, hist.Put, 1, 1).Step(w).Step(w).Step(w)
	w.Closed = true
	are(t, "closed since", path(w, g), "again", "back", "offer", "close", "unlist", "shrink", "done")
	is(t, "open", w.Factory.IsOpen(1), false)
}

// P17.1: a giving is a value: of one that was kept a step does the same in a
// clone.
func TestKept(t *testing.T) {
	w := of(t, 1)
	g := Offer(0, hist.Put, 1, 1)
	c := w.Clone()
	one := g.Step(w).Step(w)
	other := g.Step(c).Step(c)
	is(t, "both", one, other)
	is(t, "the first", g, Give{0, hist.Put, 1, 1, "offer"})
	are(t, "both worlds", changed(c, tell(w)))
}

// where: how many of these hold of an id: free, in a slot, carried, taken by
// somebody else, closed.
func where(w *world.World, id uint64, carried, taken bool) int {
	n := 0
	for _, s := range w.Slots.All() {
		if s.ID == id {
			n++
		}
	}
	for _, x := range []bool{load(w, id).State() == word.Free, carried, taken, !w.Factory.IsOpen(id)} {
		if x {
			n++
		}
	}
	return n
}

// carries: is the id nowhere else, by the giving's state?
func carries(g Give) bool {
	return g.State == "offer" || g.State == "free" || g.State == "close"
}

// P17.2: whatever others do between its steps, each id is in just one place;
// and what wasn't done when the world was closed leaves nothing that is free.
func TestNothingIsLost(t *testing.T) {
	r := rand.New(rand.NewSource(17))
	for range 4000 {
		w := of(t, 2)
		mine := Offer(0, hist.Put, 1, 1)
		yours := Offer(1, hist.Put, 2, 1)
		taken, late := map[uint64]bool{}, map[uint64]bool{}
		for range 60 {
			switch k := r.Intn(14); {
			case k < 4:
				mine = mine.Step(w)
			case k < 8:
				yours = yours.Step(w)
			case k < 10: // somebody parks, and takes what is free, if there is something
				if w.Slots.Park(2+r.Intn(4), 9) == api.OK {
					take(w, r, taken)
				}
			case k == 10:
				take(w, r, taken)
			case k == 11 && r.Intn(4) == 0:
				late[1], late[2] = late[1] || !w.Closed && !mine.Done(), late[2] || !w.Closed && !yours.Done()
				w.Closed = true
			case k == 12 && r.Intn(4) == 0:
				marks(w, uint64(1+r.Intn(2)))
			}
			for id, g := range map[uint64]Give{1: mine, 2: yours} {
				if n := where(w, id, carries(g), taken[id]); n != 1 {
					t.Fatalf("%d is in %d places: %v, %v", id, n, g, tell(w))
				}
			}
		}
		for !mine.Done() {
			mine = mine.Step(w)
		}
		for !yours.Done() {
			yours = yours.Step(w)
		}
		for id := range late {
			is(t, "free, and closed", late[id] && load(w, id).State() == word.Free, false)
		}
	}
}

// take: one of the ids, if it is free, is somebody else's.
func take(w *world.World, r *rand.Rand, taken map[uint64]bool) {
	id := uint64(1 + r.Intn(2))
	x := load(w, id)
	if x.State() != word.Free {
		return
	}
	if _, ok := w.Bag.Swap(id, x, word.InUse, w.Now()); ok {
		taken[id] = true
	}
}
