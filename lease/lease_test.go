package lease

import (
	"cmp"
	"math"
	"math/rand"
	"slices"
	"testing"

	"hackney/api"
)

const top = api.MaxTick

// holding: a lease, as a test keeps it.
type holding struct {
	id      uint64
	thread  int
	since   uint64
	flagged bool
}

// begins: a lease begins, or that is wrong.
func begins(t *testing.T, what string, b *Book, id uint64, thread int, now uint64, want api.Errno) {
	t.Helper()
	if got := b.Begin(id, thread, now); got != want {
		t.Errorf("%s: Begin(%d, %d, %d): %d, wanted %d", what, id, thread, now, got, want)
	}
}

// ends: a lease ends, or that is wrong.
func ends(t *testing.T, what string, b *Book, id uint64, thread int, want api.Errno) {
	t.Helper()
	if got := b.End(id, thread); got != want {
		t.Errorf("%s: End(%d, %d): %d, wanted %d", what, id, thread, got, want)
	}
}

// marks: an id is marked, or that is wrong.
func marks(t *testing.T, what string, b *Book, id uint64, thread int, want api.Errno) {
	t.Helper()
	if got := b.Mark(id, thread); got != want {
		t.Errorf("%s: Mark(%d, %d): %d, wanted %d", what, id, thread, got, want)
	}
}

// leaks: just these are told, in that order.
func leaks(t *testing.T, what string, b *Book, now uint64, want ...uint64) {
	t.Helper()
	if got := b.Leaks(now); !slices.Equal(got, want) {
		t.Errorf("%s: Leaks(%d): %v, wanted %v", what, now, got, want)
	}
}

// has: just these leases, by whatever it is asked that leaves it; each that
// isn't flagged has a timer, where leaks is true.
func has(t *testing.T, what string, b *Book, leaks bool, want ...holding) {
	t.Helper()
	timers := 0
	for _, x := range want {
		if got, ok := b.Holder(x.id); got != x.thread || !ok {
			t.Errorf("%s: Holder(%d): %d, %v, wanted %d, true", what, x.id, got, ok, x.thread)
		}
		if got, ok := b.Since(x.id); got != x.since || !ok {
			t.Errorf("%s: Since(%d): %d, %v, wanted %d, true", what, x.id, got, ok, x.since)
		}
		if leaks && !x.flagged {
			timers++
		}
	}
	if got := b.Len(); got != len(want) {
		t.Errorf("%s: Len %d, wanted %d", what, got, len(want))
	}
	if got := b.Timers(); got != timers {
		t.Errorf("%s: Timers %d, wanted %d", what, got, timers)
	}
	if got, ids := b.Flagged(), idsOf(want, func(x holding) bool { return x.flagged }); !slices.Equal(got, ids) {
		t.Errorf("%s: Flagged %v, wanted %v", what, got, ids)
	}
	for thread := -1; thread <= api.MaxThreads; thread++ {
		ids := idsOf(want, func(x holding) bool { return x.thread == thread })
		if got := b.Held(thread); !slices.Equal(got, ids) {
			t.Errorf("%s: Held(%d) %v, wanted %v", what, thread, got, ids)
		}
	}
}

// idsOf: those of such, rising.
func idsOf(l []holding, such func(holding) bool) []uint64 {
	var ids []uint64
	for _, x := range l {
		if such(x) {
			ids = append(ids, x.id)
		}
	}
	slices.Sort(ids)
	return ids
}

// lacks: these ids have no lease.
func lacks(t *testing.T, what string, b *Book, ids ...uint64) {
	t.Helper()
	for _, id := range ids {
		if got, ok := b.Holder(id); got != 0 || ok {
			t.Errorf("%s: Holder(%d): %d, %v, wanted 0, false", what, id, got, ok)
		}
		if got, ok := b.Since(id); got != 0 || ok {
			t.Errorf("%s: Since(%d): %d, %v, wanted 0, false", what, id, got, ok)
		}
	}
}

// marked: of the ids up to 20 just these are.
func marked(t *testing.T, what string, b *Book, want ...uint64) {
	t.Helper()
	for id := range uint64(21) {
		if got := b.Marked(id); got != slices.Contains(want, id) {
			t.Errorf("%s: Marked(%d) %v", what, id, got)
		}
	}
}

// of: a book of that Leak, and these leases.
func of(t *testing.T, leak uint64, l ...holding) *Book {
	t.Helper()
	b := New(leak)
	for _, x := range l {
		begins(t, "of", b, x.id, x.thread, x.since, api.OK)
	}
	return b
}

// full: as many leases as may be: of each id from 1 on, to threads in turn,
// since ten times the id.
func full(t *testing.T, leak uint64) (*Book, []holding) {
	t.Helper()
	var l []holding
	for id := uint64(1); id <= api.MaxTimers; id++ {
		l = append(l, holding{id, int(id % api.MaxThreads), id * 10, false})
	}
	return of(t, leak, l...), l
}

// P14.1: a new book is without leases, marks and flags, and one of its own.
func TestNew(t *testing.T) {
	for _, leak := range []uint64{0, 5, top, math.MaxUint64} {
		a, b := New(leak), New(leak)
		has(t, "new", b, true)
		lacks(t, "new", b, 0, 1, math.MaxUint64)
		marked(t, "new", b)
		leaks(t, "new", b, math.MaxUint64)
		begins(t, "one", a, 1, 1, 1, api.OK)
		marks(t, "one", a, 1, 1, api.OK)
		has(t, "the other one", b, true)
		marked(t, "the other one", b)
	}
}

// P14.1: leases are of any ids, to any of the threads; each has its own tick.
func TestBegin(t *testing.T) {
	b := New(5)
	begins(t, "one", b, 7, 1, 3, api.OK)
	has(t, "one", b, true, holding{7, 1, 3, false})
	lacks(t, "one", b, 0, 1, 3, 6, 8)
	begins(t, "two", b, 2, 1, 9, api.OK)
	begins(t, "three", b, math.MaxUint64, 0, 0, api.OK)
	begins(t, "four", b, 5, 7, 3, api.OK)
	begins(t, "five", b, 1, 1, 1, api.OK)
	has(t, "five", b, true, holding{7, 1, 3, false}, holding{2, 1, 9, false},
		holding{math.MaxUint64, 0, 0, false}, holding{5, 7, 3, false}, holding{1, 1, 1, false})
}

// P14.1: since when it is is kept as it is handed in, above the last tick, too.
func TestSince(t *testing.T) {
	b := New(5)
	var want []holding
	for i, now := range []uint64{0, 1, top - 1, top, top + 1, 1 << 63, math.MaxUint64} {
		begins(t, "since", b, uint64(i+1), i, now, api.OK)
		want = append(want, holding{uint64(i + 1), i, now, false})
	}
	has(t, "since", b, true, want...)
}

// P14.1: of no such thread there is no lease, whatever else is wrong.
func TestBeginOfNoThread(t *testing.T) {
	b := of(t, 5, holding{7, 1, 3, false})
	for _, thread := range []int{-1, 8, 9, math.MaxInt, math.MinInt} {
		begins(t, "no thread", b, 8, thread, 3, api.ErrRange)
		begins(t, "no thread, and twice", b, 7, thread, 3, api.ErrRange)
	}
	has(t, "as it was", b, true, holding{7, 1, 3, false})
	lacks(t, "as it was", b, 8)
	b, l := full(t, 5)
	begins(t, "no thread, and full", b, 0, 8, 3, api.ErrRange)
	begins(t, "no thread, and full, and twice", b, 4, -1, 3, api.ErrRange)
	has(t, "full", b, true, l...)
}

// P14.1, P14.3: no id has two, to whomever they were; the first stays as it is.
func TestBeginTwice(t *testing.T) {
	b := of(t, 5, holding{7, 1, 3, false}, holding{9, 0, 4, false})
	for thread := range api.MaxThreads {
		begins(t, "twice", b, 7, thread, 6, api.ErrTwice)
		begins(t, "twice", b, 9, thread, 0, api.ErrTwice)
	}
	has(t, "twice", b, true, holding{7, 1, 3, false}, holding{9, 0, 4, false})
	leaks(t, "by its first tick", b, 8, 7)
	begins(t, "flagged", b, 7, 1, 20, api.ErrTwice)
	has(t, "flagged", b, true, holding{7, 1, 3, true}, holding{9, 0, 4, false})
	ends(t, "over", b, 7, 1, api.OK)
	begins(t, "over", b, 7, 2, 20, api.OK)
	has(t, "over", b, true, holding{7, 2, 20, false}, holding{9, 0, 4, false})
}

// P14.1: there are 1024 at most, with timers or without, flagged or not.
func TestBeginFull(t *testing.T) {
	for _, leak := range []uint64{5, 0} {
		b, l := full(t, leak)
		has(t, "full", b, leak > 0, l...)
		for _, id := range []uint64{0, api.MaxTimers + 1, math.MaxUint64} {
			begins(t, "full", b, id, 1, 3, api.ErrFull)
			lacks(t, "full", b, id)
		}
		begins(t, "full, and twice", b, 1, 1, 3, api.ErrTwice)
		begins(t, "full, and twice", b, api.MaxTimers, 1, 3, api.ErrTwice)
		if leak > 0 { // without timers it is as full
			b.Leaks(math.MaxUint64)
			for i := range l {
				l[i].flagged = true
			}
			begins(t, "flagged", b, api.MaxTimers+1, 1, 3, api.ErrFull)
		}
		has(t, "full", b, leak > 0, l...)
		ends(t, "one is over", b, 1, 1, api.OK)
		begins(t, "one is over", b, api.MaxTimers+1, 3, 3, api.OK)
		begins(t, "full again", b, 1, 1, 3, api.ErrFull)
		has(t, "full again", b, leak > 0, append(l[1:], holding{api.MaxTimers + 1, 3, 3, false})...)
	}
}

// P14.1: who holds it ends it, with its timer; nobody else does.
func TestEnd(t *testing.T) {
	b := of(t, 5, holding{7, 1, 3, false}, holding{8, 0, 3, false}, holding{9, 1, 4, false})
	for _, thread := range []int{0, 2, 7, 8, -1, math.MaxInt, math.MinInt} {
		ends(t, "another one's", b, 7, thread, api.ErrNotHeld)
		ends(t, "nobody's", b, 6, thread, api.ErrNotHeld)
		ends(t, "nobody's", b, 0, thread, api.ErrNotHeld)
	}
	ends(t, "the thread 0's", b, 8, 1, api.ErrNotHeld)
	has(t, "as it was", b, true, holding{7, 1, 3, false}, holding{8, 0, 3, false}, holding{9, 1, 4, false})
	ends(t, "its own", b, 7, 1, api.OK)
	has(t, "without 7", b, true, holding{8, 0, 3, false}, holding{9, 1, 4, false})
	lacks(t, "without 7", b, 7)
	ends(t, "once is all", b, 7, 1, api.ErrNotHeld)
	leaks(t, "its timer is gone", b, 100, 8, 9)
	ends(t, "its own", b, 8, 0, api.OK)
	ends(t, "its own", b, 9, 1, api.OK)
	has(t, "none", b, true)
	ends(t, "none", b, 9, 1, api.ErrNotHeld)
}

// P14.1: a flag is gone with its lease; the next one of that id has none.
func TestEndOfFlagged(t *testing.T) {
	b := of(t, 5, holding{7, 1, 3, false}, holding{8, 2, 3, false})
	leaks(t, "both", b, 8, 7, 8)
	has(t, "both", b, true, holding{7, 1, 3, true}, holding{8, 2, 3, true})
	ends(t, "another one's", b, 7, 2, api.ErrNotHeld)
	has(t, "as it was", b, true, holding{7, 1, 3, true}, holding{8, 2, 3, true})
	ends(t, "7", b, 7, 1, api.OK)
	has(t, "without 7", b, true, holding{8, 2, 3, true})
	begins(t, "7 again", b, 7, 1, 10, api.OK)
	has(t, "7 again", b, true, holding{8, 2, 3, true}, holding{7, 1, 10, false})
	leaks(t, "not yet", b, 14)
	leaks(t, "then", b, 15, 7)
	has(t, "flagged again", b, true, holding{8, 2, 3, true}, holding{7, 1, 10, true})
}

// P14.1: who holds it marks it; the mark stays till it is forgotten, whatever
// becomes of the lease.
func TestMark(t *testing.T) {
	b := of(t, 5, holding{7, 1, 3, false}, holding{8, 0, 3, false}, holding{9, 1, 3, false})
	for _, thread := range []int{0, 2, 7, 8, -1, math.MaxInt, math.MinInt} {
		marks(t, "another one's", b, 7, thread, api.ErrNotHeld)
		marks(t, "nobody's", b, 6, thread, api.ErrNotHeld)
		marks(t, "nobody's", b, 0, thread, api.ErrNotHeld)
	}
	marked(t, "none", b)
	marks(t, "7", b, 7, 1, api.OK)
	marked(t, "7", b, 7)
	marks(t, "twice", b, 7, 1, api.OK)
	marks(t, "8", b, 8, 0, api.OK)
	marked(t, "two", b, 7, 8)
	has(t, "the leases stay", b, true, holding{7, 1, 3, false}, holding{8, 0, 3, false}, holding{9, 1, 3, false})
	ends(t, "7", b, 7, 1, api.OK)
	marked(t, "over", b, 7, 8)
	marks(t, "over", b, 7, 1, api.ErrNotHeld)
	begins(t, "another one's", b, 7, 2, 4, api.OK)
	marked(t, "another one's", b, 7, 8)
	marks(t, "no more its own", b, 7, 1, api.ErrNotHeld)
	leaks(t, "flagged", b, 9, 8, 9, 7)
	marked(t, "flagged", b, 7, 8)
}

// P14.1: what is forgotten is marked no more; that is all.
func TestForget(t *testing.T) {
	b := of(t, 5, holding{7, 1, 3, false}, holding{8, 0, 3, false})
	marks(t, "7", b, 7, 1, api.OK)
	marks(t, "7", b, 7, 1, api.OK)
	marks(t, "8", b, 8, 0, api.OK)
	b.Forget(9)
	b.Forget(0)
	b.Forget(math.MaxUint64)
	marked(t, "others", b, 7, 8)
	b.Forget(7)
	marked(t, "7", b, 8)
	b.Forget(7)
	marked(t, "7 again", b, 8)
	has(t, "the leases stay", b, true, holding{7, 1, 3, false}, holding{8, 0, 3, false})
	marks(t, "7", b, 7, 1, api.OK)
	marked(t, "marked again", b, 7, 8)
	ends(t, "8", b, 8, 0, api.OK)
	b.Forget(8)
	marked(t, "nobody's", b, 7)
	leaks(t, "its timer stays", b, 8, 7)
	b.Forget(7)
	has(t, "its flag stays", b, true, holding{7, 1, 3, true})
}

// P14.1: what is done with a clone leaves its original, and the other way.
func TestClone(t *testing.T) {
	l := []holding{{7, 1, 3, false}, {8, 0, 3, true}, {9, 1, 4, false}}
	b := of(t, 5, holding{8, 0, 3, false})
	leaks(t, "8", b, 8, 8)
	begins(t, "7", b, 7, 1, 3, api.OK)
	begins(t, "9", b, 9, 1, 4, api.OK)
	marks(t, "7", b, 7, 1, api.OK)
	c := b.Clone()
	if c == b {
		t.Fatal("a clone is one of its own")
	}
	for _, x := range []*Book{c, b} {
		has(t, "both", x, true, l...)
		marked(t, "both", x, 7)
	}
	begins(t, "the clone", c, 5, 2, 9, api.OK)
	ends(t, "the clone", c, 8, 0, api.OK)
	marks(t, "the clone", c, 9, 1, api.OK)
	c.Forget(7)
	leaks(t, "the clone", c, 8, 7)
	has(t, "b", b, true, l...)
	marked(t, "b", b, 7)
	leaks(t, "b", b, 9, 7, 9)
	begins(t, "b", b, 6, 3, 1, api.OK)
	marks(t, "b", b, 6, 3, api.OK)
	ends(t, "b", b, 9, 1, api.OK)
	has(t, "the clone", c, true, holding{7, 1, 3, true}, holding{9, 1, 4, false}, holding{5, 2, 9, false})
	marked(t, "the clone", c, 9)
	leaks(t, "the clone's Leak", c, 14, 9, 5)
	has(t, "a clone of none", New(5).Clone(), true)
}

// P14.2: the example; who held it for Leak ticks is told, once.
func TestLeaks(t *testing.T) {
	b := of(t, 5, holding{7, 1, 3, false})
	leaks(t, "not yet", b, 0)
	leaks(t, "not yet", b, 7)
	has(t, "not yet", b, true, holding{7, 1, 3, false})
	leaks(t, "then", b, 8, 7)
	has(t, "then", b, true, holding{7, 1, 3, true})
	leaks(t, "once is all", b, 8)
	leaks(t, "once is all", b, math.MaxUint64)
	has(t, "flagged still", b, true, holding{7, 1, 3, true})
	begins(t, "behind its tick", b, 2, 0, 1, api.OK)
	leaks(t, "behind its tick", b, 100, 2)
	has(t, "both", b, true, holding{7, 1, 3, true}, holding{2, 0, 1, true})
}

// P14.2: they are told by ticks, and of one tick by ids; flags by ids alone.
func TestLeaksInOrder(t *testing.T) {
	b := of(t, 5, holding{7, 1, 5, false}, holding{3, 2, 5, false}, holding{9, 3, 4, false},
		holding{1, 4, 6, false}, holding{math.MaxUint64, 5, 0, false}, holding{2, 1, 20, false})
	leaks(t, "in order", b, 11, math.MaxUint64, 9, 3, 7, 1)
	has(t, "flags", b, true, holding{7, 1, 5, true}, holding{3, 2, 5, true}, holding{9, 3, 4, true},
		holding{1, 4, 6, true}, holding{math.MaxUint64, 5, 0, true}, holding{2, 1, 20, false})
	leaks(t, "the last", b, 25, 2)
	b, l := full(t, 1)
	var ids []uint64
	for i := range l {
		ids = append(ids, l[i].id)
		l[i].flagged = true
	}
	leaks(t, "full", b, top, ids...)
	has(t, "full", b, true, l...)
}

// P14.2: of the Leak 0 there are no timers, and nothing leaks.
func TestLeakNever(t *testing.T) {
	b := of(t, 0, holding{7, 1, 0, false}, holding{8, 2, 3, false})
	has(t, "never", b, false, holding{7, 1, 0, false}, holding{8, 2, 3, false})
	leaks(t, "never", b, 3)
	leaks(t, "never", b, math.MaxUint64)
	c := b.Clone()
	leaks(t, "nor a clone", c, math.MaxUint64)
	ends(t, "without a timer", b, 7, 1, api.OK)
	has(t, "without a timer", b, false, holding{8, 2, 3, false})
}

// P14.2: a timer's tick is the last one at most.
func TestLeaksAtTheLastTick(t *testing.T) {
	cases := []struct{ leak, since, at uint64 }{
		{1, 0, 1}, {5, top - 5, top}, {5, top - 6, top - 1}, {5, top - 1, top}, {5, top, top},
		{1, math.MaxUint64, top}, {top, 0, top}, {top - 1, 0, top - 1}, {top, 7, top},
		{math.MaxUint64, 0, top}, {math.MaxUint64, 1, top}, {math.MaxUint64, math.MaxUint64, top}, {1 << 63, 1 << 63, top},
	}
	for _, c := range cases {
		b := of(t, c.leak, holding{4, 1, c.since, false})
		leaks(t, "ahead of it", b, c.at-1)
		has(t, "ahead of it", b, true, holding{4, 1, c.since, false})
		leaks(t, "at it", b.Clone(), c.at, 4)
		leaks(t, "behind it", b, math.MaxUint64, 4)
		has(t, "behind it", b, true, holding{4, 1, c.since, true})
		if t.Failed() {
			t.Fatalf("Leak %d since %d: at %d", c.leak, c.since, c.at)
		}
	}
}

// P14.2: an answer shares nothing with the book, or with another answer.
func TestAnswersAreNewMemory(t *testing.T) {
	b := of(t, 5, holding{7, 1, 3, false}, holding{8, 1, 3, false}, holding{9, 1, 3, false})
	told := b.Leaks(8)
	flags, held := b.Flagged(), b.Held(1)
	for _, l := range [][]uint64{told, flags, held, b.Flagged(), b.Held(1)} {
		if !slices.Equal(l, []uint64{7, 8, 9}) {
			t.Errorf("%v, wanted 7, 8, 9", l)
		}
		clear(l[:cap(l)])
	}
	has(t, "as it was", b, true, holding{7, 1, 3, true}, holding{8, 1, 3, true}, holding{9, 1, 3, true})
	flags, held = b.Flagged(), b.Held(1)
	ends(t, "7", b, 7, 1, api.OK)
	begins(t, "1", b, 1, 1, 9, api.OK)
	if !slices.Equal(flags, []uint64{7, 8, 9}) || !slices.Equal(held, []uint64{7, 8, 9}) {
		t.Errorf("what was told: %v, %v", flags, held)
	}
}

// P14.2: what is told of nil, whatever else is wrong.
func TestNil(t *testing.T) {
	var b *Book
	for _, thread := range []int{0, 1, 7, 8, -1} {
		begins(t, "nil", b, 7, thread, 3, api.ErrNil)
		ends(t, "nil", b, 7, thread, api.ErrNil)
		marks(t, "nil", b, 7, thread, api.ErrNil)
	}
	b.Forget(7)
	has(t, "nil", b, true)
	lacks(t, "nil", b, 0, 7, math.MaxUint64)
	marked(t, "nil", b)
	leaks(t, "nil", b, math.MaxUint64)
	if b.Clone() != nil {
		t.Error("its clone isn't nil")
	}
}

// plain: a book as the words tell it, without a wheel.
type plain struct {
	leak   uint64
	leases []holding
	marks  []uint64
}

// at: the place of that thread's lease of an id; -1.
func (p *plain) at(id uint64, thread int) int {
	return slices.IndexFunc(p.leases, func(x holding) bool { return x.id == id && x.thread == thread })
}

// leaks: what is to be told; they are flagged.
func (p *plain) leaks(now uint64) []uint64 {
	var due []holding
	for i, x := range p.leases {
		if p.leak > 0 && !x.flagged && now >= x.since+p.leak {
			due = append(due, x)
			p.leases[i].flagged = true
		}
	}
	slices.SortFunc(due, func(a, b holding) int {
		return cmp.Or(cmp.Compare(a.since, b.since), cmp.Compare(a.id, b.id))
	})
	var ids []uint64
	for _, x := range due {
		ids = append(ids, x.id)
	}
	return ids
}

// P14.3: whatever is asked, no id is held by two, and none is flagged that
// wasn't held for Leak ticks.
func TestWhateverIsAsked(t *testing.T) {
	r := rand.New(rand.NewSource(14))
	for _, leak := range []uint64{0, 1, 5, 30} {
		b, p := New(leak), &plain{leak: leak}
		now := uint64(0)
		for range 4000 {
			id, thread := 1+uint64(r.Intn(12)), r.Intn(api.MaxThreads)
			if i := r.Intn(len(p.leases) + 1); i < len(p.leases) && r.Intn(2) == 0 {
				id, thread = p.leases[i].id, p.leases[i].thread
			}
			at := p.at(id, thread)
			owned := api.OK
			if at < 0 {
				owned = api.ErrNotHeld
			}
			switch r.Intn(7) {
			case 0, 1:
				want := api.OK
				if slices.ContainsFunc(p.leases, func(x holding) bool { return x.id == id }) {
					want = api.ErrTwice
				} else {
					p.leases = append(p.leases, holding{id, thread, now, false})
				}
				begins(t, "chance", b, id, thread, now, want)
			case 2:
				ends(t, "chance", b, id, thread, owned)
				if at >= 0 {
					p.leases = slices.Delete(p.leases, at, at+1)
				}
			case 3:
				marks(t, "chance", b, id, thread, owned)
				if at >= 0 {
					p.marks = append(p.marks, id)
				}
			case 4:
				b.Forget(id)
				p.marks = slices.DeleteFunc(p.marks, func(x uint64) bool { return x == id })
			case 5:
				now += uint64(r.Intn(4))
				leaks(t, "chance", b, now, p.leaks(now)...)
			case 6:
				b = b.Clone()
			}
			has(t, "chance", b, leak > 0, p.leases...)
			marked(t, "chance", b, p.marks...)
			if t.Failed() {
				t.FailNow()
			}
		}
	}
}
