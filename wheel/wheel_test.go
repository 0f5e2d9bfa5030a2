package wheel

import (
	"cmp"
	"math"
	"math/rand"
	"slices"
	"testing"

	"hackney/api"
)

const top = api.MaxTick

// timer: a key and its tick, as a test keeps them.
type timer struct{ key, at uint64 }

// of: a wheel of some timers.
func of(t *testing.T, l ...timer) *Wheel {
	t.Helper()
	w := New()
	for _, x := range l {
		if got := w.Arm(x.key, x.at); got != api.OK {
			t.Fatalf("Arm(%d, %d): %d", x.key, x.at, got)
		}
	}
	return w
}

// full: a wheel of as many timers as may be: each key 1 .. at ten times itself.
func full(t *testing.T) *Wheel {
	t.Helper()
	w := New()
	for key := uint64(1); key <= api.MaxTimers; key++ {
		if got := w.Arm(key, key*10); got != api.OK {
			t.Fatalf("Arm of the %d. timer: %d", key, got)
		}
	}
	return w
}

// has: a wheel has these timers, by whatever it is asked that leaves it.
func has(t *testing.T, what string, w *Wheel, want ...timer) {
	t.Helper()
	if got := w.Len(); got != len(want) {
		t.Errorf("%s: Len %d, wanted %d", what, got, len(want))
	}
	least, some := uint64(math.MaxUint64), false
	for _, x := range want {
		if got, ok := w.At(x.key); got != x.at || !ok {
			t.Errorf("%s: At(%d): %d, %v, wanted %d, true", what, x.key, got, ok, x.at)
		}
		least, some = min(least, x.at), true
	}
	if !some {
		least = 0
	}
	if got, ok := w.Next(); got != least || ok != some {
		t.Errorf("%s: Next: %d, %v, wanted %d, %v", what, got, ok, least, some)
	}
}

// lacks: a wheel has no timer of these keys.
func lacks(t *testing.T, what string, w *Wheel, keys ...uint64) {
	t.Helper()
	for _, key := range keys {
		if got, ok := w.At(key); got != 0 || ok {
			t.Errorf("%s: At(%d): %d, %v, wanted 0, false", what, key, got, ok)
		}
	}
}

// due: just these keys are due, in that order.
func due(t *testing.T, what string, w *Wheel, now uint64, want ...uint64) {
	t.Helper()
	if got := w.Due(now); !slices.Equal(got, want) {
		t.Errorf("%s: Due(%d): %v, wanted %v", what, now, got, want)
	}
}

// P5.1: a new wheel has none, and is one of its own.
func TestNew(t *testing.T) {
	v, w := New(), New()
	if v == nil || w == nil || v == w {
		t.Fatal("two new wheels are two")
	}
	has(t, "new", w)
	lacks(t, "new", w, 0, 1, math.MaxUint64)
	due(t, "new", w, math.MaxUint64)
	if w.Disarm(0) || w.Disarm(7) {
		t.Error("a new wheel has nothing to be disarmed")
	}
	v.Arm(1, 1)
	has(t, "the other one", w)
}

// P5.1: a key's timer is at the tick that was named last.
func TestArm(t *testing.T) {
	w := of(t, timer{7, 5}, timer{0, 0}, timer{math.MaxUint64, 3})
	has(t, "three", w, timer{7, 5}, timer{0, 0}, timer{math.MaxUint64, 3})
	lacks(t, "three", w, 1, 5, 3)
	for _, at := range []uint64{9, 2, 2, 0, top} {
		if got := w.Arm(7, at); got != api.OK {
			t.Errorf("Arm(7, %d): %d", at, got)
		}
		has(t, "armed again", w, timer{7, at}, timer{0, 0}, timer{math.MaxUint64, 3})
	}
}

// P5.1: of ticks above 2^60 the timer is at 2^60.
func TestArmAboveMaxTick(t *testing.T) {
	cases := []struct{ at, want uint64 }{
		{top - 1, top - 1}, {top, top}, {top + 1, top}, {1 << 61, top},
		{1 << 63, top}, {math.MaxUint64 - 1, top}, {math.MaxUint64, top},
	}
	for _, c := range cases {
		w := of(t, timer{4, c.at})
		has(t, "armed", w, timer{4, c.want})
		due(t, "ahead of it", w, c.want-1)
		due(t, "at it", w, c.want, 4)
		again := of(t, timer{4, 1}, timer{4, c.at})
		has(t, "armed again", again, timer{4, c.want})
	}
	w := of(t, timer{9, math.MaxUint64}, timer{3, top}, timer{5, top + 1})
	due(t, "one tick, by keys", w, top, 3, 5, 9)
}

// P5.1: where there are 1024 others nothing is done.
func TestArmFull(t *testing.T) {
	w := full(t)
	for _, key := range []uint64{0, api.MaxTimers + 1, math.MaxUint64} {
		for _, at := range []uint64{0, 1, top, math.MaxUint64} {
			if got := w.Arm(key, at); got != api.ErrFull {
				t.Errorf("Arm(%d, %d) of a full wheel: %d", key, at, got)
			}
		}
	}
	lacks(t, "full", w, 0, api.MaxTimers+1, math.MaxUint64)
	var want []timer
	for key := uint64(1); key <= api.MaxTimers; key++ {
		want = append(want, timer{key, key * 10})
	}
	has(t, "full", w, want...)
}

// P5.1: a key that has a timer has but 1023 others, however full the wheel is.
func TestArmAgainWhereFull(t *testing.T) {
	w := full(t)
	for _, key := range []uint64{1, 500, api.MaxTimers} {
		if got := w.Arm(key, 3); got != api.OK {
			t.Errorf("Arm(%d, 3) of a full wheel that has it: %d", key, got)
		}
		if at, ok := w.At(key); at != 3 || !ok {
			t.Errorf("At(%d): %d, %v, wanted 3, true", key, at, ok)
		}
	}
	if w.Len() != api.MaxTimers {
		t.Errorf("Len %d", w.Len())
	}
}

// P5.1, P5.2: what is disarmed, or was due, leaves room for just as many.
func TestRoomAgain(t *testing.T) {
	w := full(t)
	w.Disarm(17)
	if got := w.Arm(5000, 1); got != api.OK {
		t.Errorf("behind a Disarm: %d", got)
	}
	if got := w.Arm(17, 1); got != api.ErrFull {
		t.Errorf("full again: %d", got)
	}
	due(t, "two", w, 10, 5000, 1)
	for _, key := range []uint64{6000, 6001} {
		if got := w.Arm(key, top); got != api.OK {
			t.Errorf("behind a Due: Arm(%d): %d", key, got)
		}
	}
	if got := w.Arm(6002, top); got != api.ErrFull {
		t.Errorf("full once more: %d", got)
	}
}

// P5.1: a key has none any more; was there one?
func TestDisarm(t *testing.T) {
	w := of(t, timer{0, 0}, timer{7, 5}, timer{3, 5})
	for _, key := range []uint64{1, 5, math.MaxUint64} {
		if w.Disarm(key) {
			t.Errorf("Disarm(%d): there was none", key)
		}
	}
	has(t, "nothing done", w, timer{0, 0}, timer{7, 5}, timer{3, 5})
	for _, key := range []uint64{7, 0} {
		if !w.Disarm(key) {
			t.Errorf("Disarm(%d): there was one", key)
		}
		if w.Disarm(key) {
			t.Errorf("Disarm(%d): there was none any more", key)
		}
		lacks(t, "disarmed", w, key)
	}
	has(t, "one is left", w, timer{3, 5})
	due(t, "one is left", w, top, 3)
}

// P5.1: a clone and its wheel change by themselves.
func TestClone(t *testing.T) {
	w := of(t, timer{1, 10}, timer{2, 20}, timer{3, 30})
	c := w.Clone()
	if c == nil || c == w {
		t.Fatal("a clone is one of its own")
	}
	has(t, "the clone", c, timer{1, 10}, timer{2, 20}, timer{3, 30})
	c.Arm(1, 11)
	c.Arm(4, 40)
	c.Disarm(2)
	has(t, "the wheel stays", w, timer{1, 10}, timer{2, 20}, timer{3, 30})
	lacks(t, "the wheel stays", w, 4)
	w.Arm(5, 50)
	due(t, "the wheel", w, 30, 1, 2, 3)
	has(t, "the clone stays", c, timer{1, 11}, timer{3, 30}, timer{4, 40})
	lacks(t, "the clone stays", c, 5)

	empty := New().Clone()
	has(t, "of none", empty)
	if got := empty.Arm(1, 1); got != api.OK {
		t.Errorf("Arm of a clone of none: %d", got)
	}
	if got := full(t).Clone().Arm(5000, 1); got != api.ErrFull {
		t.Errorf("Arm of a clone of a full one: %d", got)
	}
}

// P5.2: by ticks, rising, of one tick by keys; they are gone then.
func TestDue(t *testing.T) {
	w := of(t, timer{7, 5}, timer{3, 5}, timer{9, 4})
	due(t, "the document's", w, 5, 9, 3, 7)
	has(t, "all gone", w)
	lacks(t, "all gone", w, 3, 7, 9)

	l := []timer{{1, 8}, {2, 6}, {math.MaxUint64, 6}, {0, 6}, {1 << 63, 0}, {5, 7}, {4, 9}}
	due(t, "none", of(t, timer{6, 1}), 0)
	due(t, "at 0", of(t, l...), 0, 1<<63)
	due(t, "at 6", of(t, l...), 6, 1<<63, 0, 2, math.MaxUint64)
	due(t, "at 8", of(t, l...), 8, 1<<63, 0, 2, math.MaxUint64, 5, 1)
	w = of(t, l...)
	due(t, "at 7", w, 7, 1<<63, 0, 2, math.MaxUint64, 5)
	has(t, "what is left", w, timer{1, 8}, timer{4, 9})
	due(t, "at 7 again", w, 7)
	due(t, "earlier", w, 0)
	due(t, "far on", w, math.MaxUint64, 1, 4)
}

// P5.2: what is now may be any number.
func TestDueAtTheEnd(t *testing.T) {
	for _, now := range []uint64{top, top + 1, 1 << 61, 1 << 63, math.MaxUint64} {
		w := of(t, timer{2, top}, timer{1, math.MaxUint64}, timer{3, top - 1})
		due(t, "all", w, now, 3, 1, 2)
		has(t, "all gone", w)
	}
	w := of(t, timer{2, top}, timer{3, top - 1})
	due(t, "ahead of the end", w, top-2)
	due(t, "ahead of the end", w, top-1, 3)
	has(t, "ahead of the end", w, timer{2, top})
}

// P5.2: the least tick, which stays till its timer goes.
func TestNext(t *testing.T) {
	w := of(t, timer{5, top}, timer{6, 40}, timer{7, 30})
	for _, want := range []uint64{30, 40, top} {
		for range 2 {
			if got, ok := w.Next(); got != want || !ok {
				t.Errorf("Next: %d, %v, wanted %d", got, ok, want)
			}
		}
		w.Due(want)
	}
	if got, ok := w.Next(); got != 0 || ok {
		t.Errorf("Next of none: %d, %v", got, ok)
	}
	w.Arm(1, 0)
	if got, ok := w.Next(); got != 0 || !ok {
		t.Errorf("Next at 0: %d, %v, wanted 0, true", got, ok)
	}
}

// P5.2: of nil there is nothing, and nothing can be done.
func TestNil(t *testing.T) {
	var w *Wheel
	for _, n := range []uint64{0, 1, top, math.MaxUint64} {
		if got := w.Arm(n, n); got != api.ErrNil {
			t.Errorf("Arm of nil: %d", got)
		}
		if w.Disarm(n) {
			t.Error("Disarm of nil is false")
		}
		if at, ok := w.At(n); at != 0 || ok {
			t.Errorf("At of nil: %d, %v", at, ok)
		}
		if got := w.Due(n); len(got) != 0 {
			t.Errorf("Due of nil: %v", got)
		}
	}
	if at, ok := w.Next(); at != 0 || ok {
		t.Errorf("Next of nil: %d, %v", at, ok)
	}
	if w.Len() != 0 {
		t.Errorf("Len of nil: %d", w.Len())
	}
	if w.Clone() != nil {
		t.Error("Clone of nil is nil")
	}
}

// Memory: what was told is new memory, spare room included.
func TestDueIsNew(t *testing.T) {
	w := of(t, timer{1, 1}, timer{2, 2}, timer{3, 3}, timer{4, 4}, timer{5, 5})
	first := w.Due(3)
	second := w.Due(4)
	for _, l := range [][]uint64{first, second} {
		whole := l[:cap(l)]
		for i := range whole {
			whole[i] = 99
		}
		_ = append(l, 98)
	}
	if !slices.Equal(second, []uint64{99}) || !slices.Equal(first, []uint64{99, 99, 99}) {
		t.Errorf("%v, %v", first, second)
	}
	has(t, "what is left", w, timer{5, 5})
	lacks(t, "what is left", w, 99, 98)
	due(t, "what is left", w, 5, 5)
}

// P5.3: tick by tick each timer is due once, at its tick.
func TestDueOnce(t *testing.T) {
	const ticks = 300
	w := New()
	want := map[uint64]uint64{}
	for i := range uint64(api.MaxTimers) {
		key, at := i*2654435761%1000003, i*7919%ticks
		if got := w.Arm(key, at); got != api.OK {
			t.Fatalf("Arm(%d, %d): %d", key, at, got)
		}
		want[key] = at
	}
	seen := map[uint64]bool{}
	for now := range uint64(ticks) {
		for _, key := range w.Due(now) {
			if want[key] != now || seen[key] {
				t.Errorf("now %d: %d is due, which is at %d; was it: %v", now, key, want[key], seen[key])
			}
			seen[key] = true
		}
	}
	if len(seen) != len(want) || w.Len() != 0 {
		t.Errorf("%d of %d were due, %d are left", len(seen), len(want), w.Len())
	}
}

// P5.3: what is put off is due at its new tick alone; what is armed again
// behind its tick is another timer.
func TestDueOncePutOff(t *testing.T) {
	w := of(t, timer{1, 5}, timer{2, 5})
	w.Arm(1, 9)
	due(t, "at the old tick", w, 5, 2)
	due(t, "ahead of the new one", w, 8)
	due(t, "at the new one", w, 9, 1)
	due(t, "not twice", w, top)
	w.Arm(1, 3)
	due(t, "a tick that is gone by", w, 9, 1)
	due(t, "not twice", w, 9)
}

// plain: timers in a list, by the plainest means.
type plain []timer

func (p plain) place(key uint64) int {
	return slices.IndexFunc(p, func(x timer) bool { return x.key == key })
}

func (p *plain) arm(key, at uint64) api.Errno {
	at = min(at, top)
	if i := p.place(key); i >= 0 {
		(*p)[i].at = at
		return api.OK
	}
	if len(*p) == api.MaxTimers {
		return api.ErrFull
	}
	*p = append(*p, timer{key, at})
	return api.OK
}

func (p *plain) disarm(key uint64) bool {
	i := p.place(key)
	if i >= 0 {
		*p = slices.Delete(*p, i, i+1)
	}
	return i >= 0
}

func (p *plain) due(now uint64) []uint64 {
	var gone []timer
	var left plain
	for _, x := range *p {
		if x.at <= now {
			gone = append(gone, x)
		} else {
			left = append(left, x)
		}
	}
	*p = left
	slices.SortFunc(gone, func(a, b timer) int {
		return cmp.Or(cmp.Compare(a.at, b.at), cmp.Compare(a.key, b.key))
	})
	var keys []uint64
	for _, x := range gone {
		keys = append(keys, x.key)
	}
	return keys
}

// P5.1, P5.2, P5.3: long runs of calls come to what a plain list comes to.
func TestLongRuns(t *testing.T) {
	ticks := []uint64{0, 1, 2, 3, 5, 9, 1 << 32, top - 1, top, top + 1, math.MaxUint64}
	for seed := range int64(200) {
		r := rand.New(rand.NewSource(seed))
		w, p := New(), plain{}
		for range 200 {
			key, tick := uint64(r.Intn(12)), ticks[r.Intn(len(ticks))]
			switch r.Intn(8) {
			case 0:
				if got, want := w.Disarm(key), p.disarm(key); got != want {
					t.Fatalf("seed %d: Disarm(%d): %v, wanted %v", seed, key, got, want)
				}
			case 1:
				due(t, "run", w, tick, p.due(tick)...)
			case 2:
				w = w.Clone()
			default:
				if got, want := w.Arm(key, tick), p.arm(key, tick); got != want {
					t.Fatalf("seed %d: Arm(%d, %d): %d, wanted %d", seed, key, tick, got, want)
				}
			}
			has(t, "run", w, p...)
		}
	}
}

// P5.2: the same calls are answered alike, in whatever order they stand.
func TestOrderOfArming(t *testing.T) {
	var l []timer
	var want []uint64
	for i := range uint64(60) {
		l = append(l, timer{100 - i, i / 6})
	}
	sorted := slices.SortedFunc(slices.Values(l), func(a, b timer) int {
		return cmp.Or(cmp.Compare(a.at, b.at), cmp.Compare(a.key, b.key))
	})
	for _, x := range sorted {
		want = append(want, x.key)
	}
	r := rand.New(rand.NewSource(1))
	for range 50 {
		r.Shuffle(len(l), func(i, j int) { l[i], l[j] = l[j], l[i] })
		due(t, "shuffled", of(t, l...), 10, want...)
	}
}
