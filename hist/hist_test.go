package hist

import (
	"math"
	"math/rand"
	"slices"
	"testing"

	"hackney/api"
)

// has: a history has these events, in order, and stands at that step.
func has(t *testing.T, what string, h *History, now uint64, want ...Event) {
	t.Helper()
	if got := h.Now(); got != now {
		t.Errorf("%s: Now %d, wanted %d", what, got, now)
	}
	if got := h.All(); !slices.Equal(got, want) {
		t.Errorf("%s: All %v, wanted %v", what, got, want)
	}
}

// waiting: just these threads wait for an answer.
func waiting(t *testing.T, what string, h *History, want ...int) {
	t.Helper()
	if got := h.Pending(); !slices.Equal(got, want) {
		t.Errorf("%s: Pending %v, wanted %v", what, got, want)
	}
}

// text: so an event is written.
func text(t *testing.T, e Event, want string) {
	t.Helper()
	if got := e.Text(); got != want {
		t.Errorf("%v: %q, wanted %q", e, got, want)
	}
}

// advance: so many steps.
func advance(h *History, n int) {
	for range n {
		h.Advance()
	}
}

// The numbers of kinds and ops are those of the document.
func TestNumbers(t *testing.T) {
	if got := [...]int{Call, Point, Answer, Retire}; got != [...]int{0, 1, 2, 3} {
		t.Errorf("the kinds: %v", got)
	}
	if got := [...]int{Get, Put, Evict, Close, House}; got != [...]int{0, 1, 2, 3, 4} {
		t.Errorf("the ops: %v", got)
	}
}

// P9.1: at the step 0, without events; each is one of its own.
func TestNew(t *testing.T) {
	h, other := New(), New()
	has(t, "new", h, 0)
	waiting(t, "new", h)
	h.Advance()
	h.Add(1, Call, Get, 0, api.OK)
	has(t, "another one", other, 0)
	waiting(t, "another one", other)
}

// P9.1: the step's number is one more, and that is told.
func TestAdvance(t *testing.T) {
	h := New()
	for want := uint64(1); want <= 1000; want++ {
		if got := h.Advance(); got != want || h.Now() != want || h.Now() != want {
			t.Fatalf("Advance: %d, Now %d, wanted %d", got, h.Now(), want)
		}
	}
	has(t, "behind it", h, 1000)
}

// P9.1: an event has the step at which it was added, and all else as it is told.
func TestAdd(t *testing.T) {
	h := New()
	h.Add(3, Point, House, 9, api.ErrBusy)
	has(t, "at the step 0", h, 0, Event{0, 3, Point, House, 9, api.ErrBusy})
	advance(h, 1)
	h.Add(2, Call, Get, 0, api.OK)
	h.Add(2, Call, Get, 0, api.OK)
	advance(h, 2)
	h.Add(0, Retire, Close, math.MaxUint64, api.ErrPanic)
	advance(h, 1)
	has(t, "at other steps", h, 4,
		Event{0, 3, Point, House, 9, api.ErrBusy},
		Event{1, 2, Call, Get, 0, api.OK},
		Event{1, 2, Call, Get, 0, api.OK},
		Event{3, 0, Retire, Close, math.MaxUint64, api.ErrPanic})
}

// P9.1: what is out of all bounds is recorded, too: nothing is said against it.
func TestAddOfAnything(t *testing.T) {
	h := New()
	h.Add(-1, 4, 5, 0, -1)
	h.Add(8, -1, -1, 1, 19)
	h.Add(math.MaxInt, math.MaxInt, math.MinInt, math.MaxUint64, math.MaxInt)
	has(t, "anything", h, 0,
		Event{0, -1, 4, 5, 0, -1},
		Event{0, 8, -1, -1, 1, 19},
		Event{0, math.MaxInt, math.MaxInt, math.MinInt, math.MaxUint64, math.MaxInt})
}

// P9.1: what is done with a clone leaves its original, and the other way.
func TestClone(t *testing.T) {
	h := New()
	h.Advance()
	for i := range 5 { // whether there is spare room, or none
		h.Add(i, Call, Put, uint64(i), api.OK)
		was := h.All()
		c := h.Clone()
		if c == h {
			t.Fatal("a clone is one of its own")
		}
		has(t, "a clone", c, h.Now(), was...)
		waiting(t, "a clone", c, h.Pending()...)
		now := h.Now()
		c.Advance()
		c.Advance()
		c.Add(7, Call, Get, 0, api.OK)
		has(t, "the original", h, now, was...)
		h.Advance()
		h.Add(6, Point, House, 0, api.ErrNil)
		has(t, "the clone", c, now+2, append(slices.Clone(was), Event{now + 2, 7, Call, Get, 0, api.OK})...)
		has(t, "the original", h, now+1, append(was, Event{now + 1, 6, Point, House, 0, api.ErrNil})...)
	}
	has(t, "a clone of none", New().Clone(), 0)
}

// P9.1: an answer shares nothing with the history, or with another answer.
func TestAllIsNewMemory(t *testing.T) {
	h := New()
	for i := range 9 {
		h.Add(i, Call, Get, 0, api.OK)
		a, b := h.All(), h.All()
		want := slices.Clone(b)
		a[0] = Event{9, 9, Answer, House, 9, api.ErrNaN}
		_ = append(a, a[0])
		clear(a[:cap(a)])
		h.Add(7, Answer, Put, 8, api.ErrFull)
		if !slices.Equal(b, want) {
			t.Fatalf("the other answer: %v, wanted %v", b, want)
		}
		has(t, "the history", h, 0, append(want, Event{0, 7, Answer, Put, 8, api.ErrFull})...)
	}
}

// P9.1, P9.2: what is told of nil.
func TestNil(t *testing.T) {
	var h *History
	for range 2 {
		has(t, "nil", h, 0)
		waiting(t, "nil", h)
		if got := h.Advance(); got != 0 {
			t.Errorf("Advance: %d", got)
		}
		h.Add(1, Call, Get, 1, api.OK)
	}
	if h.Clone() != nil {
		t.Error("its clone isn't nil")
	}
}

// P9.2: who called, and has no answer.
func TestPending(t *testing.T) {
	h := New()
	h.Add(5, Call, Get, 0, api.OK)
	waiting(t, "one", h, 5)
	h.Add(2, Call, Put, 1, api.OK)
	h.Add(7, Call, House, 0, api.OK)
	h.Add(0, Call, Close, 0, api.OK)
	waiting(t, "four, rising", h, 0, 2, 5, 7)
	h.Add(2, Answer, Put, 1, api.ErrNotHeld)
	waiting(t, "one has its answer", h, 0, 5, 7)
	h.Add(0, Answer, Close, 0, api.OK)
	h.Add(7, Answer, House, 0, api.OK)
	waiting(t, "only the first", h, 5)
	h.Add(5, Answer, Get, 0, api.ErrTimeout)
	waiting(t, "all have", h)
	h.Add(2, Call, Get, 0, api.OK)
	waiting(t, "once more", h, 2)
}

// P9.2: points and retirements, and what is of no kind, are neither.
func TestPendingOfOtherKinds(t *testing.T) {
	kinds := []int{Point, Retire, 4, -1, math.MaxInt, math.MinInt}
	h := New()
	for _, kind := range kinds {
		h.Add(1, kind, Get, 1, api.OK)
	}
	waiting(t, "no call", h)
	h.Add(1, Call, Get, 0, api.OK)
	for _, kind := range kinds {
		h.Add(1, kind, Get, 1, api.OK)
	}
	waiting(t, "no answer", h, 1)
}

// P9.2: it goes by how many there are, whatever their order and their ops.
func TestPendingCounts(t *testing.T) {
	h := New()
	h.Add(1, Call, Get, 0, api.OK)
	h.Add(1, Call, Put, 2, api.OK)
	h.Add(1, Answer, House, 3, api.OK)
	waiting(t, "two calls, one answer", h, 1)
	h.Add(1, Answer, 9, 0, api.OK)
	waiting(t, "two and two", h)
	h.Add(1, Answer, Get, 0, api.OK)
	waiting(t, "an answer more", h)
	h.Add(1, Call, Get, 0, api.OK)
	waiting(t, "three and three", h)
	h.Add(1, Call, Get, 0, api.OK)
	waiting(t, "a call more", h, 1)
	h.Add(3, Answer, Get, 0, api.OK)
	h.Add(3, Call, Get, 0, api.OK)
	waiting(t, "an answer ahead of its call", h, 1)
}

// P9.2: as counted by hand, of whatever there is.
func TestPendingByHand(t *testing.T) {
	r := rand.New(rand.NewSource(1))
	for range 200 {
		h := New()
		var more [api.MaxThreads]int
		for range r.Intn(60) {
			thread, kind := r.Intn(api.MaxThreads), r.Intn(4)
			h.Add(thread, kind, r.Intn(5), uint64(r.Intn(3)), api.OK)
			switch kind {
			case Call:
				more[thread]++
			case Answer:
				more[thread]--
			}
		}
		var want []int
		for thread, n := range more {
			if n > 0 {
				want = append(want, thread)
			}
		}
		waiting(t, "by hand", h, want...)
	}
}

// P9.2: what is told of who waits is new memory, and changes nothing.
func TestPendingIsNewMemory(t *testing.T) {
	h := New()
	h.Add(4, Call, Get, 0, api.OK)
	h.Add(1, Call, Get, 0, api.OK)
	a, b := h.Pending(), h.Pending()
	a[0], a[1] = 9, 9
	if !slices.Equal(b, []int{1, 4}) {
		t.Errorf("the other answer: %v", b)
	}
	waiting(t, "the history", h, 1, 4)
	has(t, "the history", h, 0, Event{0, 4, Call, Get, 0, api.OK}, Event{0, 1, Call, Get, 0, api.OK})
}

// P9.2: each kind and each op has its word.
func TestText(t *testing.T) {
	h := New()
	h.Advance()
	h.Add(2, Call, Get, 0, api.OK)
	text(t, h.All()[0], "1 2 call get 0 0")
	text(t, Event{2, 2, Point, Put, 7, api.ErrNotHeld}, "2 2 point put 7 5")
	text(t, Event{30, 0, Answer, Evict, 16, api.OK}, "30 0 answer evict 16 0")
	text(t, Event{4, 7, Retire, Close, 5, api.OK}, "4 7 retire close 5 0")
	text(t, Event{5, 1, Call, House, 0, api.ErrPanic}, "5 1 call house 0 18")
	text(t, Event{}, "0 0 call get 0 0")
	kinds := []string{"call", "point", "answer", "retire"}
	ops := []string{"get", "put", "evict", "close", "house"}
	for kind, k := range kinds {
		for op, o := range ops {
			text(t, Event{6, 3, kind, op, 8, api.ErrNil}, "6 3 "+k+" "+o+" 8 1")
		}
	}
}

// P9.2: what is of no kind, or no op, has no word.
func TestTextOfOthers(t *testing.T) {
	for _, n := range []int{-1, -5, 5, 6, 100, math.MaxInt, math.MinInt} {
		text(t, Event{1, 2, n, Put, 3, api.ErrClosed}, "1 2 ? put 3 6")
		text(t, Event{1, 2, Retire, n, 3, api.ErrClosed}, "1 2 retire ? 3 6")
		text(t, Event{1, 2, n, n, 3, api.ErrClosed}, "1 2 ? ? 3 6")
	}
	text(t, Event{1, 2, 4, 4, 3, api.ErrClosed}, "1 2 ? house 3 6")
}

// P9.2: great numbers, and such below 0, are written out.
func TestTextOfNumbers(t *testing.T) {
	text(t, Event{math.MaxUint64, 7, Point, Get, math.MaxUint64 - 1, 19},
		"18446744073709551615 7 point get 18446744073709551614 19")
	text(t, Event{1 << 63, math.MaxInt, Call, Put, 1 << 60, math.MaxInt},
		"9223372036854775808 9223372036854775807 call put 1152921504606846976 9223372036854775807")
	text(t, Event{10, -3, Call, Put, 100, -20}, "10 -3 call put 100 -20")
}

// P9.3: steps never fall, and what was recorded stays, whatever else is asked.
func TestWhatWasStays(t *testing.T) {
	r := rand.New(rand.NewSource(2))
	h := New()
	var want []Event
	step := uint64(0)
	for range 3000 {
		switch r.Intn(5) {
		case 0:
			step++
			h.Advance()
		case 1, 2:
			e := Event{step, r.Intn(10) - 1, r.Intn(6) - 1, r.Intn(7) - 1, r.Uint64(), api.Errno(r.Intn(21) - 1)}
			want = append(want, e)
			h.Add(e.Thread, e.Kind, e.Op, e.ID, e.Err)
		case 3:
			h.Pending()
			clear(h.All())
		case 4:
			c := h.Clone()
			c.Advance()
			c.Add(0, Answer, Put, 0, api.OK)
		}
		if h.Now() != step {
			t.Fatalf("Now %d, wanted %d", h.Now(), step)
		}
	}
	has(t, "at last", h, step, want...)
	if !slices.IsSortedFunc(h.All(), func(a, b Event) int { return int(a.Step) - int(b.Step) }) {
		t.Error("a step falls")
	}
}
