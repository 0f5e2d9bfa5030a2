package slots

import (
	"math"
	"math/rand"
	"slices"
	"testing"

	"hackney/api"
)

// parks: a thread is parked, or that is wrong.
func parks(t *testing.T, what string, s *Slots, thread int, deadline uint64, want api.Errno) {
	t.Helper()
	if got := s.Park(thread, deadline); got != want {
		t.Errorf("%s: Park(%d, %d): %d, wanted %d", what, thread, deadline, got, want)
	}
}

// fills: this thread's slot is filled.
func fills(t *testing.T, what string, s *Slots, id uint64, want int) {
	t.Helper()
	if got, ok := s.Fill(id); got != want || !ok {
		t.Errorf("%s: Fill(%d): %d, %v, wanted %d, true", what, id, got, ok, want)
	}
}

// fillsNone: nothing is filled with that.
func fillsNone(t *testing.T, what string, s *Slots, id uint64) {
	t.Helper()
	if got, ok := s.Fill(id); got != 0 || ok {
		t.Errorf("%s: Fill(%d): %d, %v, wanted 0, false", what, id, got, ok)
	}
}

// takes: a thread's slot was there, filled with this.
func takes(t *testing.T, what string, s *Slots, thread int, want uint64) {
	t.Helper()
	if got, ok := s.Take(thread); got != want || !ok {
		t.Errorf("%s: Take(%d): %d, %v, wanted %d, true", what, thread, got, ok, want)
	}
}

// takesNone: these threads have none to be taken.
func takesNone(t *testing.T, what string, s *Slots, threads ...int) {
	t.Helper()
	for _, thread := range threads {
		if got, ok := s.Take(thread); got != 0 || ok {
			t.Errorf("%s: Take(%d): %d, %v, wanted 0, false", what, thread, got, ok)
		}
	}
}

// has: just these slots, in order, by whatever they are asked that leaves them.
func has(t *testing.T, what string, s *Slots, want ...Slot) {
	t.Helper()
	if got := s.All(); !slices.Equal(got, want) {
		t.Errorf("%s: All %v, wanted %v", what, got, want)
	}
	waiting := 0
	for _, x := range want {
		if x.ID == 0 {
			waiting++
		}
	}
	if got := s.Waiting(); got != waiting {
		t.Errorf("%s: Waiting %d, wanted %d", what, got, waiting)
	}
	for thread := -1; thread <= api.MaxThreads; thread++ {
		var one Slot
		i := slices.IndexFunc(want, func(x Slot) bool { return x.Thread == thread })
		if i >= 0 {
			one = want[i]
		}
		if got, ok := s.Of(thread); got != one || ok != (i >= 0) {
			t.Errorf("%s: Of(%d): %v, %v, wanted %v, %v", what, thread, got, ok, one, i >= 0)
		}
	}
}

// of: slots of these threads, none of them filled, each with ten times the
// thread and one as its deadline.
func of(t *testing.T, threads ...int) *Slots {
	t.Helper()
	s := New()
	for _, thread := range threads {
		parks(t, "of", s, thread, deadline(thread), api.OK)
	}
	return s
}

func deadline(thread int) uint64 { return uint64(10*thread + 1) }

// slot: as `of` parks it, filled with that.
func slot(thread int, id uint64) Slot { return Slot{thread, deadline(thread), id} }

// P11.1: at first there are none; each is one of its own.
func TestNew(t *testing.T) {
	s, other := New(), New()
	has(t, "new", s)
	fillsNone(t, "new", s, 1)
	takesNone(t, "new", s, 0, 1, 7)
	parks(t, "new", s, 0, 0, api.OK)
	has(t, "one", s, Slot{0, 0, 0})
	has(t, "another one", other)
}

// P11.1: who is parked stands behind all others, whatever the deadlines are.
func TestPark(t *testing.T) {
	s := New()
	parks(t, "first", s, 2, 9, api.OK)
	parks(t, "second", s, 1, 5, api.OK)
	parks(t, "third", s, 7, 7, api.OK)
	parks(t, "fourth", s, 0, 5, api.OK)
	has(t, "four", s, Slot{2, 9, 0}, Slot{1, 5, 0}, Slot{7, 7, 0}, Slot{0, 5, 0})
	fills(t, "the example", s, 7, 2)
	parks(t, "behind one that is filled", s, 3, 1, api.OK)
	has(t, "five", s, Slot{2, 9, 7}, Slot{1, 5, 0}, Slot{7, 7, 0}, Slot{0, 5, 0}, Slot{3, 1, 0})
}

// P11.1: all threads may be parked at once.
func TestParkOfAll(t *testing.T) {
	s := of(t, 7, 6, 5, 4, 3, 2, 1, 0)
	has(t, "all", s, slot(7, 0), slot(6, 0), slot(5, 0), slot(4, 0), slot(3, 0), slot(2, 0), slot(1, 0), slot(0, 0))
	for thread := range api.MaxThreads {
		parks(t, "all", s, thread, 3, api.ErrTwice)
	}
	has(t, "still", s, slot(7, 0), slot(6, 0), slot(5, 0), slot(4, 0), slot(3, 0), slot(2, 0), slot(1, 0), slot(0, 0))
}

// P11.1: no thread has two, whether its own is filled or not; it stays as it is.
func TestParkTwice(t *testing.T) {
	s := of(t, 4, 0)
	parks(t, "not filled", s, 4, 3, api.ErrTwice)
	parks(t, "not filled", s, 0, deadline(0), api.ErrTwice)
	has(t, "not filled", s, slot(4, 0), slot(0, 0))
	fills(t, "the first", s, 6, 4)
	parks(t, "filled", s, 4, 3, api.ErrTwice)
	has(t, "filled", s, slot(4, 6), slot(0, 0))
	takes(t, "the first", s, 4, 6)
	parks(t, "taken", s, 4, 3, api.OK)
	has(t, "it is the last one now", s, slot(0, 0), Slot{4, 3, 0})
}

// P11.1: a deadline is kept as it is handed in, above the last tick, too.
func TestDeadlines(t *testing.T) {
	s := New()
	for thread, at := range []uint64{0, 1, api.MaxTick, api.MaxTick + 1, 1 << 63, math.MaxUint64} {
		parks(t, "a deadline", s, thread, at, api.OK)
		if got, ok := s.Of(thread); got != (Slot{thread, at, 0}) || !ok {
			t.Errorf("Of(%d): %v, %v", thread, got, ok)
		}
	}
}

// P11.1: Park refuses nobody for a thread's number: each has its own slot.
func TestParkOfAnyNumber(t *testing.T) {
	s := New()
	for _, thread := range []int{8, -1, math.MaxInt, math.MinInt} {
		parks(t, "any", s, thread, 4, api.OK)
		parks(t, "any", s, thread, 4, api.ErrTwice)
	}
	fills(t, "any", s, 5, 8)
	fills(t, "any", s, 6, -1)
	takes(t, "any", s, -1, 6)
	has(t, "any", s, Slot{8, 4, 5}, Slot{math.MaxInt, 4, 0}, Slot{math.MinInt, 4, 0})
}

// P11.1: the first one that isn't filled is filled; there is none at last.
func TestFill(t *testing.T) {
	s := of(t, 3, 1, 5)
	fills(t, "the first", s, 20, 3)
	has(t, "the first", s, slot(3, 20), slot(1, 0), slot(5, 0))
	fills(t, "the second", s, 10, 1)
	fills(t, "the third", s, math.MaxUint64, 5)
	has(t, "all", s, slot(3, 20), slot(1, 10), slot(5, math.MaxUint64))
	fillsNone(t, "all are filled", s, 30)
	has(t, "all", s, slot(3, 20), slot(1, 10), slot(5, math.MaxUint64))
	parks(t, "one more", s, 0, deadline(0), api.OK)
	fills(t, "one more", s, 30, 0)
	has(t, "one more", s, slot(3, 20), slot(1, 10), slot(5, math.MaxUint64), slot(0, 30))
}

// P11.1: with the id 0 none is filled.
func TestFillWithNone(t *testing.T) {
	s := of(t, 2, 1)
	fillsNone(t, "0", s, 0)
	has(t, "0", s, slot(2, 0), slot(1, 0))
	fills(t, "1", s, 1, 2)
	fillsNone(t, "0", s, 0)
	has(t, "0", s, slot(2, 1), slot(1, 0))
	fillsNone(t, "0 of none", New(), 0)
}

// P11.1: that the thread 0 was handed something is told by true.
func TestFillOfThreadNought(t *testing.T) {
	s := of(t, 0)
	fills(t, "0", s, 9, 0)
	fillsNone(t, "no more", s, 9)
	takes(t, "0", s, 0, 9)
}

// P11.1: what is done with a clone leaves its original, and the other way.
func TestClone(t *testing.T) {
	s := New()
	want := []Slot{}
	for thread := range 6 { // whether there is spare room, or none
		parks(t, "s", s, thread, deadline(thread), api.OK)
		want = append(want, slot(thread, 0))
		c := s.Clone()
		if c == s {
			t.Fatal("a clone is one of its own")
		}
		has(t, "a clone", c, want...)
		parks(t, "the clone", c, 7, 1, api.OK)
		fills(t, "the clone", c, 3, 0)
		has(t, "s", s, want...)
		d := s.Clone()
		fills(t, "s", s, 4, 0)
		takes(t, "s", s, 0, 4)
		parks(t, "s", s, 6, 2, api.OK)
		has(t, "s", s, append(slices.Clone(want[1:]), Slot{6, 2, 0})...)
		has(t, "the clone", c, append(append([]Slot{slot(0, 3)}, want[1:]...), Slot{7, 1, 0})...)
		has(t, "the other clone", d, want...)
		s = d
	}
	has(t, "a clone of none", New().Clone())
}

// P11.2: a slot that is taken is gone, filled or not; the others stay in order.
func TestTake(t *testing.T) {
	s := of(t, 5, 2, 0, 7)
	fills(t, "5", s, 8, 5)
	fills(t, "2", s, 9, 2)
	takes(t, "filled", s, 2, 9)
	has(t, "without 2", s, slot(5, 8), slot(0, 0), slot(7, 0))
	takesNone(t, "once is all", s, 2)
	takes(t, "not filled", s, 0, 0)
	has(t, "without 0", s, slot(5, 8), slot(7, 0))
	takesNone(t, "once is all", s, 0)
	takesNone(t, "never parked", s, 1, 3, 4, 6, 8, -1, math.MaxInt, math.MinInt)
	has(t, "nothing more", s, slot(5, 8), slot(7, 0))
	takes(t, "the last", s, 7, 0)
	takes(t, "the first", s, 5, 8)
	has(t, "none", s)
	takesNone(t, "none", s, 5, 7)
}

// P11.2: who goes ahead of being handed something is passed over.
func TestTakeAheadOfFill(t *testing.T) {
	s := of(t, 1, 2, 3)
	takes(t, "1", s, 1, 0)
	fills(t, "the next one", s, 4, 2)
	takes(t, "3", s, 3, 0)
	fillsNone(t, "none is left", s, 5)
	has(t, "2", s, slot(2, 4))
}

// P11.2: the zero slot of who has none, and what has none waits.
func TestOf(t *testing.T) {
	s := of(t, 6, 0)
	fills(t, "6", s, 3, 6)
	has(t, "two", s, slot(6, 3), slot(0, 0))
	for _, thread := range []int{8, -1, 1 << 40, math.MaxInt, math.MinInt} {
		if got, ok := s.Of(thread); got != (Slot{}) || ok {
			t.Errorf("Of(%d): %v, %v", thread, got, ok)
		}
	}
}

// P11.2: an answer shares nothing with the slots, or with another answer.
func TestAllIsNewMemory(t *testing.T) {
	s := New()
	var want []Slot
	for thread := range 8 { // whether there is spare room, or none
		parks(t, "s", s, thread, deadline(thread), api.OK)
		want = append(want, slot(thread, 0))
		a, b := s.All(), s.All()
		_ = append(a, Slot{9, 9, 9})
		clear(a[:cap(a)])
		if !slices.Equal(b, want) {
			t.Fatalf("the other answer: %v, wanted %v", b, want)
		}
		has(t, "s", s, want...)
	}
	told := s.All()
	fills(t, "s", s, 2, 0)
	takes(t, "s", s, 3, 0)
	if !slices.Equal(told, want) {
		t.Errorf("what was told: %v, wanted %v", told, want)
	}
}

// P11.2: what is told of nil.
func TestNil(t *testing.T) {
	var s *Slots
	for range 2 {
		has(t, "nil", s)
		for _, thread := range []int{0, 1, 7, 8, -1} {
			parks(t, "nil", s, thread, 5, api.ErrNil)
			takesNone(t, "nil", s, thread)
		}
		fillsNone(t, "nil", s, 1)
		fillsNone(t, "nil", s, 0)
	}
	if s.Clone() != nil {
		t.Error("its clone isn't nil")
	}
}

// P11.3: whatever is asked, who parked first is handed first, and what was
// handed is taken, once.
func TestWhoIsFirst(t *testing.T) {
	r := rand.New(rand.NewSource(4))
	s := New()
	var row []Slot // those there are, as they were parked
	next := uint64(1)
	for range 5000 {
		thread := r.Intn(api.MaxThreads)
		at := slices.IndexFunc(row, func(x Slot) bool { return x.Thread == thread })
		switch r.Intn(4) {
		case 0:
			if at >= 0 {
				parks(t, "chance", s, thread, r.Uint64(), api.ErrTwice)
				break
			}
			row = append(row, Slot{thread, r.Uint64(), 0})
			parks(t, "chance", s, thread, row[len(row)-1].Deadline, api.OK)
		case 1:
			first := slices.IndexFunc(row, func(x Slot) bool { return x.ID == 0 })
			if first < 0 {
				fillsNone(t, "chance", s, next)
				break
			}
			fills(t, "chance", s, next, row[first].Thread)
			row[first].ID = next
			next++
		case 2:
			if at < 0 {
				takesNone(t, "chance", s, thread)
				break
			}
			takes(t, "chance", s, thread, row[at].ID)
			row = slices.Concat(row[:at], row[at+1:])
		case 3:
			s = s.Clone()
		}
		has(t, "chance", s, row...)
		if t.Failed() {
			t.FailNow()
		}
	}
}
