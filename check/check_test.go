package check

import (
	"math"
	"slices"
	"testing"

	"hackney/api"
	"hackney/hist"
)

// A history of a test is written by these: calls, points, answers, retirements.

func called(step uint64, thread, op int, id uint64) hist.Event {
	return hist.Event{Step: step, Thread: thread, Kind: hist.Call, Op: op, ID: id}
}

func pointed(step uint64, thread, op int, id uint64, e api.Errno) hist.Event {
	return hist.Event{Step: step, Thread: thread, Kind: hist.Point, Op: op, ID: id, Err: e}
}

func answered(step uint64, thread, op int, id uint64, e api.Errno) hist.Event {
	return hist.Event{Step: step, Thread: thread, Kind: hist.Answer, Op: op, ID: id, Err: e}
}

func retired(step uint64, thread, op int, id uint64) hist.Event {
	return hist.Event{Step: step, Thread: thread, Kind: hist.Retire, Op: op, ID: id}
}

// whole: a call, its point and its answer, one step each, the last of which is
// that one.
func whole(step uint64, thread, op int, id uint64, e api.Errno) []hist.Event {
	return []hist.Event{called(step-2, thread, op, id), pointed(step-1, thread, op, id, e), answered(step, thread, op, id, e)}
}

// checks: the history comes to that place and that error.
func checks(t *testing.T, what string, l []hist.Event, n int, e api.Errno) {
	t.Helper()
	if i, err := Check(l...); i != n || err != e {
		t.Errorf("%s: Check: %d, %d, wanted %d, %d: %v", what, i, err, n, e, l)
	}
}

// fine: all of it is in order.
func fine(t *testing.T, what string, l []hist.Event) {
	t.Helper()
	checks(t, what, l, len(l), api.OK)
}

// last: all of it but the last event is in order; that has that error.
func last(t *testing.T, what string, e api.Errno, l ...hist.Event) {
	t.Helper()
	fine(t, what, l[:len(l)-1])
	checks(t, what, l, len(l)-1, e)
}

// ordered: just these points and retirements are told.
func ordered(t *testing.T, what string, l []hist.Event, want ...hist.Event) {
	t.Helper()
	if got := Order(l...); !slices.Equal(got, want) {
		t.Errorf("%s: Order: %v, wanted %v", what, got, want)
	}
}

// pending: just these threads are told.
func pending(t *testing.T, what string, l []hist.Event, want ...int) {
	t.Helper()
	if got := Pending(l...); !slices.Equal(got, want) {
		t.Errorf("%s: Pending: %v, wanted %v", what, got, want)
	}
}

// ends: just these leases there are behind it, of ids up to 9, by ids; and it
// is closed, or not.
func ends(t *testing.T, what string, l []hist.Event, closed bool, leases map[uint64]int) {
	t.Helper()
	s := End(l...)
	for id := range uint64(10) {
		thread, ok := s.Holder(id)
		want, leased := leases[id]
		if thread != want || ok != leased {
			t.Errorf("%s: the holder of %d: %d, %v, wanted %d, %v", what, id, thread, ok, want, leased)
		}
	}
	if s.Leases() != len(leases) || s.Closed() != closed {
		t.Errorf("%s: %d leases, closed %v, wanted %d, %v", what, s.Leases(), s.Closed(), len(leases), closed)
	}
}

// P24.1: of no events all are in order.
func TestNone(t *testing.T) {
	fine(t, "none", nil)
	fine(t, "none", []hist.Event{})
	ordered(t, "none", nil)
	pending(t, "none", nil)
	ends(t, "none", nil, false, nil)
}

// The document's example.
func TestExample(t *testing.T) {
	last(t, "the example", api.ErrNone, called(0, 0, hist.Get, 0), answered(1, 0, hist.Get, 0, api.OK))
}

// day: a history in order of three threads, with all that there may be.
func day() []hist.Event {
	return []hist.Event{
		called(0, 0, hist.Get, 0),
		called(0, 1, hist.Get, 0),
		pointed(1, 1, hist.Get, 1, api.OK),
		pointed(2, 0, hist.Get, 0, api.ErrTimeout),
		answered(2, 0, hist.Get, 0, api.ErrTimeout),
		answered(4, 1, hist.Get, 1, api.OK),
		called(4, 0, hist.Evict, 1),
		pointed(5, 0, hist.Evict, 1, api.ErrNotHeld),
		answered(5, 0, hist.Evict, 1, api.ErrNotHeld),
		called(5, 1, hist.Evict, 1),
		pointed(6, 1, hist.Evict, 1, api.OK),
		answered(6, 1, hist.Evict, 1, api.OK),
		called(6, 1, hist.Put, 1),
		called(6, 2, hist.House, 0),
		pointed(7, 1, hist.Put, 1, api.OK),
		retired(8, 1, hist.Put, 1),
		pointed(9, 2, hist.House, 0, api.OK),
		called(9, 0, hist.Get, 0),
		answered(9, 2, hist.House, 0, api.OK),
		pointed(10, 0, hist.Get, 2, api.OK),
		called(10, 2, hist.Close, 0),
		pointed(11, 2, hist.Close, 0, api.OK),
		answered(12, 1, hist.Put, 1, api.OK),
		retired(13, 2, hist.Close, 3),
		called(13, 1, hist.Get, 7),
		pointed(14, 1, hist.Get, 0, api.ErrClosed),
	}
}

// P24.1: of a whole history: how many there are, the state behind it, its
// points and retirements, who has something on its way.
func TestDay(t *testing.T) {
	l := day()
	fine(t, "day", l)
	ends(t, "day", l, true, map[uint64]int{2: 0})
	pending(t, "day", l, 0, 1, 2)
	ordered(t, "day", l, l[2], l[3], l[7], l[10], l[14], l[15], l[16], l[19], l[21], l[23], l[25])
	s := End(l...)
	for id := range uint64(10) {
		if got := s.Retired(id); got != (id == 1 || id == 3) {
			t.Errorf("Retired(%d): %v", id, got)
		}
	}
}

// P24.1, P24.2: each beginning of it is in order, too; and each tells of itself
// alone.
func TestBeginnings(t *testing.T) {
	l := day()
	for n := range l {
		fine(t, "beginning", l[:n])
	}
	ends(t, "two", l[:2], false, nil)
	pending(t, "two", l[:2], 0, 1)
	ordered(t, "two", l[:2])
	ends(t, "three", l[:3], false, map[uint64]int{1: 1})
	pending(t, "five", l[:5], 1)
	ordered(t, "five", l[:5], l[2], l[3])
	pending(t, "six", l[:6])
	ends(t, "fourteen", l[:14], false, map[uint64]int{1: 1})
	ends(t, "fifteen", l[:15], false, nil)
	pending(t, "fifteen", l[:15], 1, 2)
}

// P24.1: where something isn't in order all is told of what was ahead of it,
// whatever is behind.
func TestUpToTheFirst(t *testing.T) {
	l := day()
	for n := range l {
		bad := slices.Concat(l[:n], []hist.Event{{Kind: 9}}, l[n:])
		checks(t, "bad", bad, n, api.ErrRange)
		ordered(t, "bad", bad, Order(l[:n]...)...)
		pending(t, "bad", bad, Pending(l[:n]...)...)
		want := End(l[:n]...)
		held := map[uint64]int{}
		for id := range uint64(10) {
			if thread, ok := want.Holder(id); ok {
				held[id] = thread
			}
		}
		ends(t, "bad", bad, want.Closed(), held)
	}
	// The first one is told, not the next, nor the worst.
	checks(t, "two are", []hist.Event{called(1, 0, hist.Get, 0), called(1, 0, hist.Get, 0), called(0, 1, hist.Get, 0)}, 1, api.ErrBusy)
}

// P24.1: what isn't in order leaves nothing: neither a state, nor a way, nor a
// point.
func TestRefusedLeavesNothing(t *testing.T) {
	l := append(whole(2, 0, hist.Get, 1, api.OK), called(3, 2, hist.Get, 0), pointed(4, 2, hist.Get, 1, api.OK))
	last(t, "leased", api.ErrOrder, l...)
	ends(t, "leased", l, false, map[uint64]int{1: 0})
	pending(t, "leased", l, 2)
	ordered(t, "leased", l, l[1])
	l = append(whole(2, 0, hist.Get, 1, api.OK), retired(3, 2, hist.Put, 1))
	last(t, "retired", api.ErrOrder, l...)
	ends(t, "retired", l, false, map[uint64]int{1: 0})
	if End(l...).Retired(1) {
		t.Error("it is retired, though it may not be")
	}
	l = []hist.Event{called(0, 0, hist.Get, 0), pointed(1, 0, hist.Get, 1, api.OK), answered(2, 0, hist.Get, 2, api.OK)}
	last(t, "answer", api.ErrOrder, l...)
	pending(t, "answer", l, 0)
}

// P24.1: no step is less than that of the event ahead; the same, and any that is
// more, is in order, and the first one may be any.
func TestSteps(t *testing.T) {
	fine(t, "the same", []hist.Event{called(5, 0, hist.Get, 0), pointed(5, 0, hist.Get, 1, api.OK), answered(5, 0, hist.Get, 1, api.OK)})
	fine(t, "far", []hist.Event{called(math.MaxUint64-1, 0, hist.Get, 0), called(math.MaxUint64, 1, hist.Get, 0)})
	last(t, "less", api.ErrRange, called(5, 0, hist.Get, 0), pointed(4, 0, hist.Get, 1, api.OK))
	last(t, "less", api.ErrRange, called(5, 0, hist.Get, 0), called(0, 1, hist.Get, 0))
	last(t, "far less", api.ErrRange, called(math.MaxUint64, 0, hist.Get, 0), called(0, 1, hist.Get, 0))
	last(t, "less than the one ahead", api.ErrRange, called(1, 0, hist.Get, 0), called(7, 1, hist.Get, 0), called(6, 2, hist.Get, 0))
	for _, x := range []hist.Event{
		pointed(1, 0, hist.Get, 1, api.OK), answered(1, 0, hist.Get, 1, api.OK), retired(1, 0, hist.Get, 1), called(1, 0, hist.Get, 0),
	} {
		last(t, "of each kind", api.ErrRange, called(2, 0, hist.Get, 0), x)
	}
}

// P24.1: the kind is one of the four, the op one of the five.
func TestKindsAndOps(t *testing.T) {
	for _, n := range []int{math.MinInt, -1, 4, 5, math.MaxInt} {
		last(t, "kind", api.ErrRange, hist.Event{Kind: n})
		last(t, "kind", api.ErrRange, called(0, 0, hist.Get, 0), hist.Event{Kind: n})
	}
	for _, n := range []int{math.MinInt, -1, 5, 6, math.MaxInt} {
		for kind := range 4 {
			last(t, "op", api.ErrRange, hist.Event{Kind: kind, Op: n, ID: 1})
			last(t, "op", api.ErrRange, called(0, 0, hist.Get, 0), hist.Event{Kind: kind, Op: n, ID: 1})
		}
	}
	for op := range 5 {
		fine(t, "calls", []hist.Event{called(0, 0, op, 1)})
		fine(t, "retirements", []hist.Event{retired(0, 0, op, 1)})
	}
}

// P24.1: ErrRange goes ahead of all other errors.
func TestRangeFirst(t *testing.T) {
	l := []hist.Event{called(5, 0, hist.Get, 0)}
	last(t, "busy", api.ErrRange, append(l, called(4, 0, hist.Get, 0))...)
	last(t, "busy", api.ErrRange, append(l, called(5, 0, 5, 0))...)
	last(t, "none", api.ErrRange, append(l, pointed(4, 1, hist.Get, 1, api.OK))...)
	last(t, "none", api.ErrRange, append(l, answered(5, 0, -1, 0, api.OK))...)
	last(t, "order", api.ErrRange, append(l, pointed(4, 0, hist.Get, 0, api.OK))...)
	last(t, "order", api.ErrRange, append(l, retired(4, 0, hist.Get, 0))...)
	last(t, "order", api.ErrRange, append(l, retired(5, 0, 5, 0))...)
}

// P24.1: a thread has one call on its way, of whatever ops they are; others have
// theirs.
func TestCalls(t *testing.T) {
	for op := range 5 {
		for again := range 5 {
			last(t, "busy", api.ErrBusy, called(0, 3, op, 1), called(0, 3, again, 1))
			fine(t, "another thread", []hist.Event{called(0, 3, op, 1), called(0, 4, again, 1)})
		}
	}
	last(t, "with a point", api.ErrBusy, called(0, 0, hist.House, 0), pointed(1, 0, hist.House, 0, api.OK), called(1, 0, hist.Get, 0))
	fine(t, "behind the answer", append(whole(2, 0, hist.House, 0, api.OK), called(2, 0, hist.House, 0)))
	var l []hist.Event
	for _, thread := range []int{7, math.MaxInt, -1, 0, 8, math.MinInt, 3} {
		l = append(l, called(0, thread, hist.Get, 0))
	}
	fine(t, "any threads", l)
	pending(t, "any threads", l, math.MinInt, -1, 0, 3, 7, 8, math.MaxInt)
}

// P24.1: the error of a call, and of a retirement, plays no part, nor what id a
// call has that asks for none.
func TestWhatPlaysNoPart(t *testing.T) {
	c, r := called(0, 0, hist.Get, 9), retired(1, 5, hist.House, 4)
	c.Err, r.Err = api.ErrBusy, api.ErrFull
	fine(t, "errors", []hist.Event{c, pointed(1, 0, hist.Get, 1, api.OK), r, answered(2, 0, hist.Get, 1, api.OK)})
	fine(t, "of Close", []hist.Event{called(0, 0, hist.Close, 9), pointed(1, 0, hist.Close, 0, api.OK)})
	fine(t, "of House", []hist.Event{called(0, 0, hist.House, 9), pointed(1, 0, hist.House, 0, api.OK)})
}

// P24.1: a point is of a call of that op that is on the thread's way, and has
// none yet.
func TestPointOfNone(t *testing.T) {
	for op := range 5 {
		last(t, "no call", api.ErrNone, pointed(0, 0, op, 0, api.OK))
		last(t, "another thread's", api.ErrNone, called(0, 1, op, 0), pointed(0, 0, op, 0, api.OK))
		for other := range 5 {
			if other != op {
				last(t, "another op", api.ErrNone, called(0, 0, op, 0), pointed(0, 0, other, 0, api.ErrNotHeld))
			}
		}
	}
	last(t, "a second one", api.ErrNone, called(0, 0, hist.House, 0), pointed(0, 0, hist.House, 0, api.OK), pointed(0, 0, hist.House, 0, api.OK))
	last(t, "behind the answer", api.ErrNone, append(whole(2, 0, hist.House, 0, api.OK), pointed(2, 0, hist.House, 0, api.OK))...)
	last(t, "ahead of order", api.ErrNone, called(0, 0, hist.Put, 1), pointed(0, 0, hist.Evict, 2, api.OK))
}

// P24.1: of Put and Evict a point has the call's id, whether it may follow or
// not; of the others any.
func TestPointOfAnotherID(t *testing.T) {
	for _, op := range []int{hist.Put, hist.Evict} {
		l := append(whole(2, 0, hist.Get, 1, api.OK), called(2, 0, op, 1))
		fine(t, "its own", append(l, pointed(3, 0, op, 1, api.OK)))
		last(t, "another id", api.ErrOrder, append(l, pointed(3, 0, op, 2, api.ErrNotHeld))...)
		last(t, "no id", api.ErrOrder, append(l, pointed(3, 0, op, 0, api.ErrNotHeld))...)
		l[3].ID = 2
		last(t, "another one's", api.ErrOrder, append(l, pointed(3, 0, op, 1, api.OK))...)
		last(t, "not held", api.ErrOrder, append(l, pointed(3, 0, op, 2, api.OK))...)
		fine(t, "not held", append(l, pointed(3, 0, op, 2, api.ErrNotHeld)))
	}
	fine(t, "a getting", []hist.Event{called(0, 0, hist.Get, 5), pointed(0, 0, hist.Get, 6, api.OK)})
}

// P24.1: a point may follow, by layer 23, of that thread.
func TestPointThatMayNot(t *testing.T) {
	l := append(whole(2, 0, hist.Get, 1, api.OK), called(2, 1, hist.Get, 0), called(2, 2, hist.Put, 1), called(2, 3, hist.Close, 0), retired(2, 0, hist.House, 2))
	for _, x := range []hist.Event{
		pointed(3, 1, hist.Get, 1, api.OK), pointed(3, 1, hist.Get, 2, api.OK), pointed(3, 1, hist.Get, 0, api.OK),
		pointed(3, 1, hist.Get, 0, api.ErrClosed), pointed(3, 1, hist.Get, 3, api.ErrTimeout), pointed(3, 1, hist.Get, 0, api.ErrNotHeld),
		pointed(3, 2, hist.Put, 1, api.OK), pointed(3, 2, hist.Put, 1, api.ErrClosed),
		pointed(3, 3, hist.Close, 0, api.ErrClosed), pointed(3, 3, hist.Close, 1, api.OK),
	} {
		last(t, "may not", api.ErrOrder, append(slices.Clone(l), x)...)
	}
	for _, x := range []hist.Event{
		pointed(3, 1, hist.Get, 3, api.OK), pointed(3, 1, hist.Get, 0, api.ErrTimeout), pointed(3, 1, hist.Get, 0, api.ErrOpen),
		pointed(3, 2, hist.Put, 1, api.ErrNotHeld), pointed(3, 3, hist.Close, 0, api.OK),
	} {
		fine(t, "may", append(slices.Clone(l), x))
	}
}

// P24.1: an answer is of a call of that op with a point, on that thread's way.
func TestAnswerOfNone(t *testing.T) {
	for op := range 5 {
		last(t, "no call", api.ErrNone, answered(0, 0, op, 0, api.OK))
		last(t, "no point", api.ErrNone, called(0, 0, op, 0), answered(0, 0, op, 0, api.OK))
	}
	l := []hist.Event{called(0, 0, hist.House, 0), called(0, 1, hist.House, 0), pointed(1, 0, hist.House, 0, api.OK)}
	last(t, "another thread's", api.ErrNone, append(l, answered(1, 1, hist.House, 0, api.OK))...)
	last(t, "no thread's", api.ErrNone, append(l, answered(1, 2, hist.House, 0, api.OK))...)
	last(t, "another op", api.ErrNone, append(l, answered(1, 0, hist.Close, 0, api.OK))...)
	last(t, "another op, and id", api.ErrNone, append(l, answered(1, 0, hist.Close, 3, api.ErrFull))...)
	last(t, "a second one", api.ErrNone, append(l, answered(1, 0, hist.House, 0, api.OK), answered(1, 0, hist.House, 0, api.OK))...)
}

// P24.1: it has the point's id and error.
func TestAnswerOfAnother(t *testing.T) {
	l := []hist.Event{called(0, 0, hist.Get, 7), pointed(1, 0, hist.Get, 1, api.OK)}
	fine(t, "the point's", append(l, answered(2, 0, hist.Get, 1, api.OK)))
	for _, id := range []uint64{0, 2, 7, math.MaxUint64} {
		last(t, "another id", api.ErrOrder, append(l, answered(2, 0, hist.Get, id, api.OK))...)
	}
	for _, e := range []api.Errno{-1, api.ErrNil, api.ErrTimeout, api.ErrPanic} {
		last(t, "another error", api.ErrOrder, append(l, answered(2, 0, hist.Get, 1, e))...)
	}
	l[1] = pointed(1, 0, hist.Get, 0, api.ErrOpen)
	fine(t, "the point's", append(l, answered(2, 0, hist.Get, 0, api.ErrOpen)))
	last(t, "another error", api.ErrOrder, append(l, answered(2, 0, hist.Get, 0, api.ErrTimeout))...)
	last(t, "no error", api.ErrOrder, append(l, answered(2, 0, hist.Get, 0, api.OK))...)
	last(t, "an id", api.ErrOrder, append(l, answered(2, 0, hist.Get, 7, api.ErrOpen))...)
}

// P24.1: a retirement may follow, by layer 23, whatever is on whose way.
func TestRetirements(t *testing.T) {
	last(t, "none", api.ErrOrder, retired(0, 0, hist.House, 0))
	last(t, "twice", api.ErrOrder, retired(0, 0, hist.House, 1), retired(1, 1, hist.Close, 1))
	l := whole(2, 0, hist.Get, 1, api.OK)
	last(t, "leased", api.ErrOrder, append(l, retired(3, 0, hist.Get, 1))...)
	fine(t, "another one", append(l, retired(3, 0, hist.Get, 2)))
	fine(t, "put", slices.Concat(l, whole(5, 0, hist.Put, 1, api.OK), []hist.Event{retired(5, 0, hist.Put, 1)}))
	fine(t, "of no call", []hist.Event{retired(0, 9, hist.Evict, math.MaxUint64)})
	busy := []hist.Event{called(0, 0, hist.Get, 0), retired(1, 0, hist.House, 1), pointed(2, 0, hist.Get, 2, api.OK), retired(3, 0, hist.Put, 3), answered(4, 0, hist.Get, 2, api.OK)}
	fine(t, "between", busy)
	pending(t, "between", busy)
	last(t, "got behind it", api.ErrOrder, called(0, 0, hist.Get, 0), retired(1, 1, hist.House, 1), pointed(2, 0, hist.Get, 1, api.OK))
}

// What is handed in is neither changed nor kept, spare room included, and an
// answer is new memory.
func TestMemory(t *testing.T) {
	room := append(day(), hist.Event{Kind: 9}, day()[0])
	was := slices.Clone(room)
	l := room[:len(day())]
	Check(l...)
	End(l...)
	Pending(l...)
	got := Order(l...)
	want := slices.Clone(got)
	if len(append(got, hist.Event{Step: 77})) != len(want)+1 || !slices.Equal(room, was) {
		t.Errorf("what was handed in is %v, was %v", room, was)
	}
	for i := range got {
		got[i] = hist.Event{Step: 99}
	}
	if !slices.Equal(room, was) {
		t.Errorf("an answer shares its memory with what was handed in: %v, was %v", room, was)
	}
	ordered(t, "again", l, want...)
	kept := Order(l...)
	room[2].ID = 1000
	if !slices.Equal(kept, want) {
		t.Errorf("an answer is %v, was %v", kept, want)
	}
	// All are retirements: still they aren't the ones that were handed in.
	all := []hist.Event{retired(0, 0, hist.House, 1), retired(0, 0, hist.House, 2)}
	Order(all...)[0].ID = 5
	ordered(t, "retirements", all, retired(0, 0, hist.House, 1), retired(0, 0, hist.House, 2))
}

// P1: all end, and none panics, whatever numbers the events have.
func TestAnyNumbers(t *testing.T) {
	far := []int{math.MinInt, -1, 0, 1, 3, 4, 5, math.MaxInt}
	for _, kind := range far {
		for _, op := range far {
			for _, thread := range far {
				x := hist.Event{Step: math.MaxUint64, Thread: thread, Kind: kind, Op: op, ID: math.MaxUint64, Err: api.Errno(op)}
				n, e := Check(x)
				known := kind >= 0 && kind <= 3 && op >= 0 && op <= 4
				if (e == api.ErrRange) == known || (n == 1) != (e == api.OK) {
					t.Errorf("%v: %d, %d", x, n, e)
				}
				End(x)
				Order(x, x)
				Pending(x, x, x)
			}
		}
	}
}
