package local

import (
	"math"
	"math/rand"
	"slices"
	"testing"

	"hackney/api"
)

// puts: these are put, or that is wrong.
func puts(t *testing.T, what string, l *Lists, want api.Errno, thread int, ids ...uint64) {
	t.Helper()
	if got := l.Put(thread, ids...); got != want {
		t.Errorf("%s: Put(%d, %v): %d, wanted %d", what, thread, ids, got, want)
	}
}

// takes: a thread's are these, one taken behind the other.
func takes(t *testing.T, what string, l *Lists, thread int, want ...uint64) {
	t.Helper()
	for _, id := range want {
		if got, ok := l.Take(thread); got != id || !ok {
			t.Errorf("%s: Take(%d): %d, %v, wanted %d, true", what, thread, got, ok, id)
		}
	}
}

// takesNone: these threads have none.
func takesNone(t *testing.T, what string, l *Lists, threads ...int) {
	t.Helper()
	for _, thread := range threads {
		if got, ok := l.Take(thread); got != 0 || ok {
			t.Errorf("%s: Take(%d): %d, %v, wanted 0, false", what, thread, got, ok)
		}
	}
}

// has: just these ids, by threads.
func has(t *testing.T, what string, l *Lists, want map[int][]uint64) {
	t.Helper()
	n := 0
	for thread := -1; thread <= api.MaxThreads; thread++ {
		n += len(want[thread])
		if got := l.All(thread); !slices.Equal(got, want[thread]) {
			t.Errorf("%s: All(%d) %v, wanted %v", what, thread, got, want[thread])
		}
	}
	if got := l.Len(); got != n {
		t.Errorf("%s: Len %d, wanted %d", what, got, n)
	}
}

// of: lists of these, of the thread 1.
func of(t *testing.T, ids ...uint64) *Lists {
	t.Helper()
	l := New()
	puts(t, "of", l, api.OK, 1, ids...)
	return l
}

// one: the ids of the thread 1 alone.
func one(ids ...uint64) map[int][]uint64 { return map[int][]uint64{1: ids} }

// strange: what is no thread.
func strange() []int {
	return []int{api.MaxThreads, -1, api.MaxThreads + 1, 1 << 32, 1<<32 + 1, -8, math.MaxInt, math.MinInt}
}

// P12.1: at first there are none; each is one of its own.
func TestNew(t *testing.T) {
	l, other := New(), New()
	has(t, "new", l, nil)
	takesNone(t, "new", l, 0, 1, 2, 3, 4, 5, 6, 7)
	puts(t, "new", l, api.OK, 1, 5)
	has(t, "one", l, one(5))
	has(t, "another one", other, nil)
}

// P12.1: what is put stands behind all of that thread's, in order.
func TestPut(t *testing.T) {
	l := New()
	puts(t, "one", l, api.OK, 1, 9)
	has(t, "one", l, one(9))
	puts(t, "two more", l, api.OK, 1, 3, 6)
	has(t, "three", l, one(9, 3, 6))
	puts(t, "the fourth", l, api.OK, 1, 1)
	has(t, "four", l, one(9, 3, 6, 1))
	puts(t, "the fifth", l, api.OK, 1, 2)
	has(t, "the first one went", l, one(3, 6, 1, 2))
	puts(t, "two more", l, api.OK, 1, 7, 8)
	has(t, "two more went", l, one(1, 2, 7, 8))
	puts(t, "four more", l, api.OK, 1, 11, 12, 13, 14)
	has(t, "all went", l, one(11, 12, 13, 14))
}

// P12.1: of more than 4 the last 4 stay, whatever there was.
func TestPutOfMany(t *testing.T) {
	has(t, "the example", of(t, 5, 6, 7, 8, 9), one(6, 7, 8, 9))
	has(t, "just four", of(t, 5, 6, 7, 8), one(5, 6, 7, 8))
	for there := range 7 {
		for more := range 12 {
			l := New()
			var want []uint64
			for i := range there {
				want = append(want, uint64(i+1))
			}
			var ids []uint64
			for i := range more {
				ids = append(ids, uint64(i+100))
			}
			puts(t, "there", l, api.OK, 1, want...)
			puts(t, "more", l, api.OK, 1, ids...)
			want = append(want, ids...)
			has(t, "many", l, one(want[max(0, len(want)-4):]...))
		}
	}
	ids := make([]uint64, 100000)
	for i := range ids {
		ids[i] = uint64(i + 1)
	}
	l := of(t, 7)
	puts(t, "ever so many", l, api.OK, 1, ids...)
	has(t, "ever so many", l, one(99997, 99998, 99999, 100000))
}

// P12.1: where none is put nothing is done.
func TestPutOfNone(t *testing.T) {
	l := of(t, 5, 6, 7, 8)
	puts(t, "none", l, api.OK, 1)
	puts(t, "none", l, api.OK, 1, []uint64{}...)
	puts(t, "none", l, api.OK, 0)
	has(t, "none", l, one(5, 6, 7, 8))
	for _, thread := range strange() {
		puts(t, "none of no such thread", l, api.ErrRange, thread)
	}
}

// P12.1: an id may stand more than once, and any number is kept as it is.
func TestPutOfAnyID(t *testing.T) {
	l := of(t, 5, 5, 5)
	puts(t, "once more", l, api.OK, 1, 5)
	has(t, "four times", l, one(5, 5, 5, 5))
	puts(t, "others", l, api.OK, 1, math.MaxUint64, 0, 1<<63)
	has(t, "others", l, one(5, math.MaxUint64, 0, 1<<63))
	takes(t, "others", l, 1, 1<<63, 0, math.MaxUint64, 5)
	takesNone(t, "all are gone", l, 1)
}

// P12.1: of no such thread nothing is put, taken, or told.
func TestNoSuchThread(t *testing.T) {
	l := of(t, 5, 6)
	puts(t, "the first thread", l, api.OK, 0, 1)
	puts(t, "the last thread", l, api.OK, 7, 2)
	want := map[int][]uint64{0: {1}, 1: {5, 6}, 7: {2}}
	for _, thread := range strange() {
		puts(t, "no such thread", l, api.ErrRange, thread, 9)
		puts(t, "no such thread", l, api.ErrRange, thread, 9, 9, 9, 9, 9)
		takesNone(t, "no such thread", l, thread)
		if got := l.All(thread); len(got) != 0 {
			t.Errorf("All(%d): %v", thread, got)
		}
		has(t, "nothing is done", l, want)
	}
}

// P12.1: the last one is taken, and is gone then.
func TestTake(t *testing.T) {
	l := of(t, 5, 6, 7, 8, 9)
	takes(t, "the example", l, 1, 9)
	has(t, "the example", l, one(6, 7, 8))
	takes(t, "one more", l, 1, 8)
	puts(t, "in its place", l, api.OK, 1, 4)
	has(t, "in its place", l, one(6, 7, 4))
	takes(t, "the rest", l, 1, 4, 7, 6)
	has(t, "none", l, nil)
	takesNone(t, "none", l, 1, 1)
	puts(t, "again", l, api.OK, 1, 2)
	has(t, "again", l, one(2))
}

// P12.1: what is done with a clone leaves its original, and the other way.
func TestClone(t *testing.T) {
	for n := range 5 {
		l := New()
		for thread := range api.MaxThreads {
			puts(t, "l", l, api.OK, thread, []uint64{5, 6, 7, 8}[:n]...)
		}
		was := map[int][]uint64{}
		for thread := range api.MaxThreads {
			was[thread] = []uint64{5, 6, 7, 8}[:n]
		}
		c, d := l.Clone(), l.Clone()
		if c == l {
			t.Fatal("a clone is one of its own")
		}
		has(t, "a clone", c, was)
		for thread := range api.MaxThreads {
			c.Take(thread)
			puts(t, "the clone", c, api.OK, thread, 1)
			c.Take(thread)
		}
		has(t, "l", l, was)
		for thread := range api.MaxThreads {
			puts(t, "l", l, api.OK, thread, 2, 3)
			l.Take(thread)
			l.Take(thread)
			puts(t, "l", l, api.OK, thread, 4)
		}
		has(t, "the other clone", d, was)
		for thread := range api.MaxThreads {
			was[thread] = []uint64{5, 6, 7, 8}[:max(0, n-1)]
		}
		has(t, "the clone", c, was)
	}
	has(t, "a clone of none", New().Clone(), nil)
}

// P12.1: the ids that are handed in are neither changed nor kept.
func TestPutKeepsNothing(t *testing.T) {
	for n := range 9 {
		room := []uint64{10, 11, 12, 13, 14, 15, 16, 17, 18, 19}
		want := slices.Clone(room)
		l, other := New(), New()
		for range 2 {
			puts(t, "l", l, api.OK, 1, room[:n]...)
			puts(t, "the other", other, api.OK, 2, room[:n]...)
			puts(t, "more", l, api.OK, 1, 1, 2)
			takes(t, "more", l, 1, 2, 1)
			puts(t, "more", other, api.OK, 2, 3)
			takes(t, "more", other, 2, 3)
			if !slices.Equal(room, want) {
				t.Fatalf("what was handed in is %v", room)
			}
		}
		was, wasOther := l.All(1), other.All(2)
		clear(room)
		has(t, "l", l, one(was...))
		has(t, "the other", other, map[int][]uint64{2: wasOther})
		if slices.Contains(was, 0) || slices.Contains(wasOther, 0) {
			t.Errorf("what is kept went with it: %v, %v", was, wasOther)
		}
	}
}

// P12.1: an answer shares nothing with the lists, or with another answer.
func TestAllIsNewMemory(t *testing.T) {
	for n := 1; n <= 4; n++ {
		want := []uint64{5, 6, 7, 8}[:n]
		l := of(t, want...)
		a, b := l.All(1), l.All(1)
		_ = append(a, 9)
		clear(a[:cap(a)])
		if !slices.Equal(b, want) {
			t.Errorf("the other answer: %v, wanted %v", b, want)
		}
		has(t, "l", l, one(want...))
		l.Take(1)
		puts(t, "l", l, api.OK, 1, 30, 31)
		if !slices.Equal(b, want) {
			t.Errorf("what was told: %v, wanted %v", b, want)
		}
	}
}

// P12.1: how many there are in all: 4 of each thread at most.
func TestLen(t *testing.T) {
	l := New()
	for thread := range api.MaxThreads {
		for i := range 6 {
			puts(t, "l", l, api.OK, thread, uint64(i+1))
			if got, want := l.Len(), 4*thread+min(i+1, 4); got != want {
				t.Errorf("Len %d, wanted %d", got, want)
			}
		}
	}
	takes(t, "l", l, 3, 6, 5)
	if got := l.Len(); got != 30 {
		t.Errorf("Len %d, wanted 30", got)
	}
}

// P12.1: what is told of nil.
func TestNil(t *testing.T) {
	var l *Lists
	for range 2 {
		has(t, "nil", l, nil)
		for _, thread := range append(strange(), 0, 1, 7) {
			puts(t, "nil", l, api.ErrNil, thread, 5)
			puts(t, "nil", l, api.ErrNil, thread)
			takesNone(t, "nil", l, thread)
			if got := l.All(thread); len(got) != 0 {
				t.Errorf("All(%d): %v", thread, got)
			}
		}
	}
	if l.Clone() != nil {
		t.Error("its clone isn't nil")
	}
}

// P12.2: no thread's are another one's, the same ids among them.
func TestEachItsOwn(t *testing.T) {
	l := New()
	want := map[int][]uint64{}
	for thread := range api.MaxThreads {
		puts(t, "l", l, api.OK, thread, 7, uint64(thread+10))
		want[thread] = []uint64{7, uint64(thread + 10)}
		has(t, "l", l, want)
	}
	for thread := range api.MaxThreads {
		takes(t, "l", l, thread, uint64(thread+10), 7)
		takesNone(t, "l", l, thread)
		want[thread] = nil
		has(t, "l", l, want)
	}
}

// P12.2: whatever is asked, what was put last is taken first, of each thread.
func TestLastIsFirst(t *testing.T) {
	r := rand.New(rand.NewSource(5))
	l := New()
	want := map[int][]uint64{}
	for range 5000 {
		thread := r.Intn(api.MaxThreads)
		ids := want[thread]
		switch r.Intn(5) {
		case 0, 1:
			var more []uint64
			for range r.Intn(7) {
				more = append(more, r.Uint64())
			}
			puts(t, "chance", l, api.OK, thread, more...)
			ids = slices.Concat(ids, more)
			want[thread] = ids[max(0, len(ids)-4):]
		case 2, 3:
			if len(ids) == 0 {
				takesNone(t, "chance", l, thread)
				break
			}
			takes(t, "chance", l, thread, ids[len(ids)-1])
			want[thread] = ids[:len(ids)-1]
		case 4:
			l = l.Clone()
		}
		has(t, "chance", l, want)
		if t.Failed() {
			t.FailNow()
		}
	}
}
