package world

import (
	"math"
	"math/rand"
	"slices"
	"testing"

	"hackney/api"
	"hackney/bag"
	"hackney/clock"
	"hackney/conf"
	"hackney/hist"
	"hackney/slots"
	"hackney/word"
)

const top = api.MaxTick

// is: it was wanted so, or a test fails.
func is[T comparable](t *testing.T, what string, got, want T) {
	t.Helper()
	if got != want {
		t.Errorf("%s: %v, wanted %v", what, got, want)
	}
}

// are: just these, in that order, or a test fails.
func are[T comparable](t *testing.T, what string, got []T, want ...T) {
	t.Helper()
	if !slices.Equal(got, want) {
		t.Errorf("%s: %v, wanted %v", what, got, want)
	}
}

// of: a world of that configuration, without scripts.
func of(t *testing.T, c conf.Conf) *World {
	t.Helper()
	w, e := New(c, nil, nil)
	if w == nil || e != api.OK {
		t.Fatalf("New(%v): %v, %d", c, w, e)
	}
	return w
}

// opens: the next id is opened, and enters the bag in that state.
func opens(t *testing.T, w *World, state int) uint64 {
	t.Helper()
	id, ok := w.Factory.Open()
	if !ok || w.Bag.Enter(id, state, w.Now()) != api.OK {
		t.Fatalf("opened %d, %v", id, ok)
	}
	return id
}

// swaps: the id's word goes on to that state: the word that it is then.
func swaps(t *testing.T, w *World, id uint64, state int) word.Word {
	t.Helper()
	old, _ := w.Bag.Load(id)
	x, done := w.Bag.Swap(id, old, state, w.Now())
	if !done {
		t.Fatalf("%d went not on from %d to %d", id, old, state)
	}
	return x
}

// part: what may be told of a world's parts, in one value.
type part struct {
	conf                              conf.Conf
	now, opened, closed, step         uint64
	entries, listed, locals, slots    int
	leases, timers, flags, open       int
	events, live, free, inUse, waited int
	isClosed, marked                  bool
}

// parts: of a world now.
func parts(w *World) part {
	return part{
		conf: w.Conf, now: w.Clock.Now(), live: w.Live, isClosed: w.Closed,
		entries: len(w.Bag.IDs()), listed: w.Bag.List().Len(), free: w.Bag.Count(word.Free), inUse: w.Bag.Count(word.InUse),
		locals: w.Locals.Len(), slots: len(w.Slots.All()), waited: w.Slots.Waiting(),
		leases: w.Book.Len(), timers: w.Book.Timers(), flags: len(w.Book.Flagged()), marked: w.Book.Marked(1),
		opened: w.Factory.Opened(), closed: w.Factory.Closed(), open: len(w.Factory.IDs()),
		step: w.History.Now(), events: len(w.History.All()),
	}
}

// P16.1: a new world is of that configuration, at the tick 0, with nothing.
func TestNew(t *testing.T) {
	for _, c := range []conf.Conf{conf.Default(), {Max: 1}, {Max: api.MaxSize, MinIdle: api.MaxSize, Idle: top, Life: top, Keep: top, Leak: top, Variance: 1}} {
		w := of(t, c)
		is(t, "new", parts(w), part{conf: c})
		is(t, "its tick", w.Now(), 0)
		is(t, "it is wanted", w.Wanted(), false)
		other := of(t, c)
		other.Tick(5)
		other.Grow()
		opens(t, other, word.Free)
		is(t, "beside another one", parts(w), part{conf: c})
	}
}

// P16.1: none of what may not be, with that error.
func TestNewOfWhatMayNotBe(t *testing.T) {
	cases := []struct {
		c    conf.Conf
		want api.Errno
	}{
		{conf.Conf{}, api.ErrRange},
		{conf.Conf{Max: -1}, api.ErrRange},
		{conf.Conf{Max: api.MaxSize + 1}, api.ErrRange},
		{conf.Conf{Max: 3, MinIdle: 4}, api.ErrRange},
		{conf.Conf{Max: 3, Leak: top + 1}, api.ErrRange},
		{conf.Conf{Max: 3, Variance: 2}, api.ErrRange},
		{conf.Conf{Max: 3, Variance: math.NaN()}, api.ErrNaN},
		{conf.Conf{Max: 0, Variance: math.NaN()}, api.ErrRange},
	}
	for _, x := range cases {
		w, e := New(x.c, []bool{true}, []bool{false})
		if w != nil || e != x.want {
			t.Errorf("New(%v): %v, %d, wanted nil, %d", x.c, w, e, x.want)
		}
	}
}

// P16.1: its factory has these scripts, each its own, and they are not kept
// in such a way that it can be seen.
func TestNewWithScripts(t *testing.T) {
	opens, proofs := []bool{false, true, false, true}, []bool{true, false, true}
	w, e := New(conf.Default(), opens[:3], proofs[:2])
	is(t, "new", e, api.OK)
	clear(opens)
	proofs[0], proofs[1] = false, true
	c := w.Clone()
	for _, x := range []*World{w, c} {
		for i, want := range []uint64{0, 1, 0, 2, 3} {
			id, ok := x.Factory.Open()
			if id != want || ok != (want > 0) {
				t.Errorf("the open %d: %d, %v", i, id, ok)
			}
		}
		for i, want := range []bool{true, false, true, true} {
			well, e := x.Factory.Prove(1)
			if well != want || e != api.OK {
				t.Errorf("the proof %d: %v, %d", i, well, e)
			}
		}
	}
	are(t, "what was handed in", opens, false, false, false, false)
	are(t, "what was handed in", proofs, false, true, true)
}

// P16.1: the book's Leak is the configuration's.
func TestLeak(t *testing.T) {
	w := of(t, conf.Conf{Max: 1, Leak: 5})
	w.Tick(3)
	is(t, "lease", w.Lease(7, 1), api.OK)
	are(t, "not yet", w.Book.Leaks(7))
	are(t, "then", w.Book.Leaks(8), 7)
	w = of(t, conf.Conf{Max: 1, Idle: 5, Life: 5, Keep: 5})
	is(t, "lease", w.Lease(7, 1), api.OK)
	is(t, "no timers", w.Book.Timers(), 0)
	are(t, "never", w.Book.Leaks(math.MaxUint64))
}

// P16.1: the clock goes on, to the last tick.
func TestTick(t *testing.T) {
	w := of(t, conf.Default())
	want := uint64(0)
	for _, n := range []uint64{0, 1, 5, 0, 1 << 40, 3} {
		w.Tick(n)
		want += n
		is(t, "its tick", w.Now(), want)
		is(t, "the clock's tick", w.Clock.Now(), want)
	}
	is(t, "that is all", parts(w), part{conf: conf.Default(), now: want})
	w.Tick(top - want - 1)
	is(t, "ahead of the last one", w.Now(), top-1)
	for _, n := range []uint64{1, 0, 1, top, math.MaxUint64} {
		w.Tick(n)
		is(t, "the last one", w.Now(), top)
	}
	w = of(t, conf.Default())
	w.Tick(math.MaxUint64)
	is(t, "the last one at once", w.Now(), top)
}

// busy: a world with something in each part.
func busy(t *testing.T) *World {
	t.Helper()
	w := of(t, conf.Conf{Max: 3, MinIdle: 1, Idle: 4, Life: 9, Keep: 2, Leak: 2, Variance: 0.5})
	w.Grow()
	w.Grow()
	opens(t, w, word.InUse)
	opens(t, w, word.Free)
	w.Publish(2)
	w.Lease(1, 0)
	w.Book.Mark(1, 0)
	w.Tick(2)
	w.Book.Leaks(2)
	w.Lease(3, 0)
	w.Slots.Park(1, 9)
	w.Slots.Park(2, 9)
	w.Slots.Fill(8)
	w.Locals.Put(3, 2)
	w.History.Advance()
	w.History.Add(1, hist.Call, hist.Get, 0, api.OK)
	return w
}

// change: something is done with each part.
func change(t *testing.T, w *World) {
	t.Helper()
	w.Conf.Max = 2
	w.Tick(7)
	w.Shrink()
	opens(t, w, word.Free)
	swaps(t, w, 2, word.Reserved)
	w.Bag.Publish(1)
	w.Locals.Put(4, 9, 9)
	w.Slots.Fill(7)
	w.Slots.Take(1)
	w.Book.End(3, 0)
	w.Lease(5, 6)
	w.Book.Leaks(w.Now())
	w.Remove(1, 1, 0, hist.Get)
	w.History.Advance()
	w.Closed = true
}

// P16.1: a clone has all that there is, and it is its own.
func TestClone(t *testing.T) {
	w := busy(t)
	was := parts(w)
	is(t, "busy", was, part{
		conf: w.Conf, now: 2, opened: 2, closed: 0, step: 1, entries: 2, listed: 1, locals: 1, slots: 2,
		leases: 2, timers: 1, flags: 1, open: 2, events: 1, live: 2, free: 1, inUse: 1, waited: 1, marked: true,
	})
	c := w.Clone()
	if c == w || c.Bag == w.Bag || c.Locals == w.Locals || c.Slots == w.Slots || c.Book == w.Book || c.Factory == w.Factory || c.History == w.History {
		t.Fatal("a part is both's")
	}
	is(t, "the clone", parts(c), was)
	change(t, c)
	is(t, "the world", parts(w), was)
	then := parts(c)
	change(t, w)
	is(t, "what was done with the one, done with the other", parts(w), then)
	is(t, "the clone", parts(c), then)
	w.Tick(1)
	w.Locals.Take(4)
	w.Slots.Park(5, 5)
	w.History.Advance()
	w.Closed = false
	is(t, "the clone", parts(c), then)
	is(t, "a clone of one that is closed", parts(c.Clone()), then)
}

// P16.2, P16.3: one by one, up to Max; and one less is below 0 never.
func TestGrowAndShrink(t *testing.T) {
	for most := 1; most <= api.MaxSize; most++ {
		w := of(t, conf.Conf{Max: most})
		w.Shrink()
		is(t, "none less than none", w.Live, 0)
		for i := range most {
			is(t, "there is room", w.Grow(), true)
			is(t, "live", w.Live, i+1)
		}
		for range 3 {
			is(t, "there is none", w.Grow(), false)
			is(t, "live", w.Live, most)
		}
		w.Shrink()
		is(t, "one less", w.Live, most-1)
		is(t, "room for one", w.Grow(), true)
		is(t, "room for no more", w.Grow(), false)
		for i := range most + 2 {
			w.Shrink()
			is(t, "less and less", w.Live, max(0, most-1-i))
		}
		is(t, "that is all", parts(w), part{conf: conf.Conf{Max: most}})
	}
}

// P16.2, P16.3: Max may be another one, which may be less than are live.
func TestGrowOfAnotherMax(t *testing.T) {
	w := of(t, conf.Conf{Max: 3})
	for range 3 {
		w.Grow()
	}
	w.Conf.Max = 4
	is(t, "one more", w.Grow(), true)
	is(t, "no more", w.Grow(), false)
	w.Conf.Max = 2
	is(t, "more than Max", w.Grow(), false)
	is(t, "they stay", w.Live, 4)
	w.Shrink()
	is(t, "more than Max", w.Grow(), false)
	w.Shrink()
	is(t, "as many as Max", w.Grow(), false)
	w.Shrink()
	is(t, "less than Max", w.Grow(), true)
	is(t, "as many as Max", w.Live, 2)
}

// P16.2: closed or not, one more is live.
func TestGrowOfClosed(t *testing.T) {
	w := of(t, conf.Conf{Max: 1})
	w.Closed = true
	is(t, "grow", w.Grow(), true)
	is(t, "full", w.Grow(), false)
	w.Shrink()
	is(t, "shrink", w.Live, 0)
}

// P16.2: by the entry's own ticks, the tick that is now, how many are live,
// and whether it is closed.
func TestDue(t *testing.T) {
	w := of(t, conf.Conf{Max: 4, MinIdle: 1, Idle: 10, Life: 30, Keep: 6})
	w.Tick(2)
	w.Bag.Enter(1, word.Free, 2)
	w.Live = 2
	due := func(what string, now uint64, want int) {
		t.Helper()
		w.Clock = clock.At(now)
		is(t, what, w.Due(1), want)
	}
	due("at once", 2, conf.None)
	due("ahead of its proof", 7, conf.None)
	due("its proof", 8, conf.Prove)
	w.Bag.Proved(1, 8)
	due("proved", 8, conf.None)
	due("idle", 12, conf.Idle)
	w.Live = 1
	due("no more than MinIdle are live", 12, conf.None)
	due("proved as long ago", 14, conf.Prove)
	w.Live = 2
	w.Bag.Swap(1, 0, word.InUse, 12)
	w.Bag.Swap(1, 5, word.Free, 13)
	w.Bag.Proved(1, 20)
	due("free since then", 22, conf.None)
	due("idle again", 23, conf.Idle)
	due("ahead of its life", 31, conf.Idle)
	due("its life", 32, conf.Aged)
	w.Closed = true
	due("closed", 32, conf.Closing)
	due("closed", 2, conf.Closing)
	is(t, "nor closed where there is none", w.Due(2), conf.None)
	is(t, "of 0", w.Due(0), conf.None)
}

// P16.2: how long it lives hangs on its id.
func TestDueByID(t *testing.T) {
	w := of(t, conf.Conf{Max: 4, Life: 1000, Variance: 0.25})
	for id := uint64(1); id <= 8; id++ {
		w.Bag.Enter(id, word.Free, 0)
	}
	w.Tick(875)
	for id := uint64(1); id <= 8; id++ {
		want := conf.None
		if id >= 4 && id < 8 {
			want = conf.Aged
		}
		is(t, "by its id", w.Due(id), want)
	}
}

// P16.2: whatever its word is.
func TestDueOfAnyWord(t *testing.T) {
	w := of(t, conf.Conf{Max: 4, Keep: 3})
	w.Tick(3)
	for state := word.Free; state <= word.Removed; state++ {
		id := uint64(state + 1)
		w.Bag.Enter(id, state, 1)
		is(t, "not yet", w.Due(id), conf.None)
		w.Bag.Proved(id, 0)
		is(t, "then", w.Due(id), conf.Prove)
	}
	is(t, "none", w.Due(5), conf.None)
	is(t, "none", w.Due(math.MaxUint64), conf.None)
}

// P16.2: it begins now, with the book's errors.
func TestLease(t *testing.T) {
	w := of(t, conf.Conf{Max: 1})
	w.Tick(6)
	is(t, "one", w.Lease(7, 1), api.OK)
	w.Tick(5)
	is(t, "another", w.Lease(2, 0), api.OK)
	is(t, "twice", w.Lease(7, 3), api.ErrTwice)
	for _, thread := range []int{-1, 8, math.MinInt, math.MaxInt} {
		is(t, "no thread, and twice", w.Lease(7, thread), api.ErrRange)
	}
	since, _ := w.Book.Since(7)
	holder, _ := w.Book.Holder(7)
	is(t, "since", since, 6)
	is(t, "holder", holder, 1)
	since, _ = w.Book.Since(2)
	is(t, "since", since, 11)
	is(t, "that is all", parts(w), part{conf: w.Conf, now: 11, leases: 2})
	for id := uint64(10); w.Book.Len() < api.MaxTimers; id++ {
		w.Lease(id, 1)
	}
	is(t, "full", w.Lease(5000, 1), api.ErrFull)
}

// P16.2: it is listed, where there is such an entry.
func TestPublish(t *testing.T) {
	w := of(t, conf.Conf{Max: 4})
	for state := word.Free; state <= word.Removed; state++ {
		opens(t, w, state)
	}
	is(t, "3", w.Publish(3), true)
	is(t, "1", w.Publish(1), true)
	is(t, "where it stood", w.Publish(3), true)
	is(t, "4", w.Publish(4), true)
	is(t, "0", w.Publish(0), false)
	is(t, "5", w.Publish(5), false)
	are(t, "the list", w.Bag.List().All(), 3, 1, 4)
	w.Closed = true
	is(t, "closed", w.Publish(2), false)
	is(t, "closed, where it stands", w.Publish(1), false)
	is(t, "closed, and none", w.Publish(5), false)
	are(t, "the list", w.Bag.List().All(), 3, 1, 4)
}

// P16.2: of all states and old words what may go on to Removed does; it is
// closed, forgotten, and recorded.
func TestRemove(t *testing.T) {
	for state := word.Free; state <= word.Removed; state++ {
		for old := word.Word(0); old < 8; old++ {
			w := of(t, conf.Conf{Max: 4})
			w.Tick(4)
			opens(t, w, word.Free)
			opens(t, w, state)
			w.Publish(2)
			w.Grow()
			w.Lease(1, 3)
			w.Lease(2, 3)
			w.Book.Mark(1, 3)
			w.Book.Mark(2, 3)
			w.History.Advance()
			was := parts(w)
			entry, _ := w.Bag.Entry(2)
			done := old == entry.Word && (state == word.InUse || state == word.Reserved)
			is(t, "remove", w.Remove(2, old, 5, hist.House), done)
			if !done {
				is(t, "nothing", parts(w), was)
				now, _ := w.Bag.Entry(2)
				is(t, "its entry", now, entry)
				is(t, "its mark", w.Book.Marked(2), true)
				continue
			}
			removed(t, w, was, entry)
		}
	}
}

// removed: the id 2, at the step 1, by the thread 5 and House; all else is as
// it was.
func removed(t *testing.T, w *World, was part, entry bag.Entry) {
	t.Helper()
	now, _ := w.Bag.Entry(2)
	is(t, "its word", now.Word, word.Of(word.Removed, 1))
	now.Word = entry.Word
	is(t, "its ticks", now, entry)
	is(t, "its mark", w.Book.Marked(2), false)
	is(t, "it is open", w.Factory.IsOpen(2), false)
	are(t, "open are", w.Factory.IDs(), 1)
	are(t, "recorded is", w.History.All(), hist.Event{Step: 1, Thread: 5, Kind: hist.Retire, Op: hist.House, ID: 2})
	was.closed, was.open, was.events = was.closed+1, was.open-1, was.events+1
	was.inUse -= boolTo(entry.Word.State() == word.InUse)
	is(t, "all else", parts(w), was)
}

// boolTo: 1 of true.
func boolTo(b bool) int {
	if b {
		return 1
	}
	return 0
}

// P16.2: whatever the thread and the op are, they are recorded as they are.
func TestRemoveIsRecorded(t *testing.T) {
	w := of(t, conf.Conf{Max: 4})
	var want []hist.Event
	for i, thread := range []int{0, 7, -1, 8, math.MaxInt} {
		for op := -1; op <= 5; op++ {
			id := opens(t, w, word.InUse)
			if i%2 == 0 {
				w.History.Advance()
			}
			is(t, "remove", w.Remove(id, 1, thread, op), true)
			want = append(want, hist.Event{Step: w.History.Now(), Thread: thread, Kind: hist.Retire, Op: op, ID: id})
		}
	}
	are(t, "recorded", w.History.All(), want...)
}

// P16.2: of no entry nothing is removed, though the factory has it; one that
// the factory never opened is removed, and that is recorded.
func TestRemoveOfWhatIsInOneAlone(t *testing.T) {
	w := of(t, conf.Conf{Max: 4})
	w.Factory.Open()
	was := parts(w)
	for _, id := range []uint64{0, 1, 2, math.MaxUint64} {
		for old := word.Word(0); old < 4; old++ {
			is(t, "no entry", w.Remove(id, old, 0, 0), false)
		}
	}
	is(t, "nothing", parts(w), was)
	w.Bag.Enter(9, word.Reserved, 0)
	is(t, "never opened", w.Remove(9, 2, 1, hist.Put), true)
	x, _ := w.Bag.Load(9)
	is(t, "its word", x, 7)
	is(t, "closed", w.Factory.Closed(), 0)
	are(t, "recorded", w.History.All(), hist.Event{Thread: 1, Kind: hist.Retire, Op: hist.Put, ID: 9})
}

// P16.2: closed or not, it is removed; by the word that it went on to, alone.
func TestRemoveByItsWord(t *testing.T) {
	w := of(t, conf.Conf{Max: 4})
	opens(t, w, word.Free)
	w.Closed = true
	is(t, "free", w.Remove(1, 0, 0, 0), false)
	x := swaps(t, w, 1, word.InUse)
	is(t, "the word that was", w.Remove(1, 0, 0, 0), false)
	is(t, "another version", w.Remove(1, 1, 0, 0), false)
	is(t, "the word", w.Remove(1, x, 0, 0), true)
	is(t, "closed", w.Factory.Closed(), 1)
}

// P16.3: nothing is closed twice.
func TestRemoveTwice(t *testing.T) {
	w := of(t, conf.Conf{Max: 4})
	opens(t, w, word.Reserved)
	is(t, "once", w.Remove(1, 2, 0, hist.House), true)
	was := parts(w)
	for old := word.Word(0); old < 16; old++ {
		is(t, "twice", w.Remove(1, old, 1, hist.Close), false)
	}
	is(t, "as it was", parts(w), was)
	c := w.Clone()
	is(t, "nor a clone", c.Remove(1, 7, 1, hist.Close), false)
	is(t, "as it was", parts(c), was)
}

// P16.2: it is, where it is closed, or somebody waits who has nothing yet.
func TestWanted(t *testing.T) {
	w := of(t, conf.Conf{Max: 4})
	is(t, "nobody waits", w.Wanted(), false)
	w.Slots.Park(1, 9)
	is(t, "one waits", w.Wanted(), true)
	w.Slots.Park(2, 9)
	w.Slots.Fill(7)
	is(t, "one waits still", w.Wanted(), true)
	w.Slots.Fill(8)
	is(t, "all have something", w.Wanted(), false)
	w.Tick(100)
	w.Slots.Take(1)
	w.Slots.Take(2)
	is(t, "nobody waits", w.Wanted(), false)
	w.Closed = true
	is(t, "closed", w.Wanted(), true)
	w.Slots.Park(1, 9)
	is(t, "both", w.Wanted(), true)
	w.Closed = false
	w.Slots.Take(1)
	is(t, "neither", w.Wanted(), false)
	is(t, "that is all", parts(w), part{conf: w.Conf, now: 100})
}

// P16.2: what is told of nil.
func TestNil(t *testing.T) {
	var w *World
	w.Tick(5)
	w.Shrink()
	if w.Clone() != nil {
		t.Error("its clone isn't nil")
	}
	is(t, "Now", w.Now(), 0)
	is(t, "Grow", w.Grow(), false)
	is(t, "Due", w.Due(1), conf.None)
	is(t, "Wanted", w.Wanted(), false)
	for _, thread := range []int{-1, 0, 7, 8} {
		is(t, "Lease", w.Lease(1, thread), api.ErrNil)
	}
	for id := range uint64(3) {
		is(t, "Publish", w.Publish(id), false)
		is(t, "Remove", w.Remove(id, 1, 0, hist.Get), false)
	}
}

// P16.3: whatever is asked, no more are live than Max, and what is closed is
// what was removed, each once, and recorded.
func TestWhateverIsAsked(t *testing.T) {
	r := rand.New(rand.NewSource(16))
	for round := range 20 {
		most := 1 + r.Intn(api.MaxSize)
		w := of(t, conf.Conf{Max: most, MinIdle: r.Intn(most + 1), Life: 50, Leak: 9})
		live := 0
		var retired []uint64
		for range 800 {
			id := 1 + uint64(r.Intn(20))
			old, _ := w.Bag.Load(id)
			switch r.Intn(8) {
			case 0:
				is(t, "grow", w.Grow(), live < most)
				live = min(most, live+1)
			case 1:
				w.Shrink()
				live = max(0, live-1)
			case 2:
				if w.Factory.Opened() < 20 {
					opens(t, w, r.Intn(word.Removed))
				}
			case 3:
				if w.Remove(id, old, 1, hist.House) {
					retired = append(retired, id)
				}
			case 4:
				w.Tick(uint64(r.Intn(3)))
				w.Closed = r.Intn(9) == 0
			case 5:
				w = w.Clone()
			default:
				w.Bag.Swap(id, old, r.Intn(word.Removed), w.Now())
			}
			is(t, "live", w.Live, live)
		}
		once(t, w, retired)
		if t.Failed() {
			t.Fatalf("in the round %d", round)
		}
	}
}

// once: each of these was closed once, and recorded in that order; no others.
func once(t *testing.T, w *World, retired []uint64) {
	t.Helper()
	var told []uint64
	for _, e := range w.History.All() {
		is(t, "recorded", e, hist.Event{Thread: 1, Kind: hist.Retire, Op: hist.House, ID: e.ID})
		told = append(told, e.ID)
	}
	are(t, "recorded", told, retired...)
	slices.Sort(told)
	is(t, "none twice", len(slices.Compact(told)), len(retired))
	is(t, "closed", w.Factory.Closed(), uint64(len(retired)))
	is(t, "removed", w.Bag.Count(word.Removed), len(retired))
	for _, id := range retired {
		is(t, "it is open", w.Factory.IsOpen(id), false)
	}
}

// P16.1: the parts are those of the layers, which may be asked whatever they
// have.
func TestPartsMayBeAsked(t *testing.T) {
	w := busy(t)
	are(t, "slots", w.Slots.All(), slots.Slot{Thread: 1, Deadline: 9, ID: 8}, slots.Slot{Thread: 2, Deadline: 9})
	are(t, "locals", w.Locals.All(3), 2)
	are(t, "held", w.Book.Held(0), 1, 3)
	are(t, "flagged", w.Book.Flagged(), 1)
	are(t, "pending", w.History.Pending(), 1)
	are(t, "the clone's Leak", w.Clone().Book.Leaks(4), 3)
}
