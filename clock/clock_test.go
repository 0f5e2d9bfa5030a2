package clock

import (
	"math"
	"math/big"
	"testing"

	"hackney/api"
)

const top = api.MaxTick

// edges: ticks and other numbers at which something may go wrong.
func edges() []uint64 {
	return []uint64{
		0, 1, 2, 3, 5, 8, 1000, 1 << 31, 1 << 32, 1 << 59, 1<<59 + 1,
		top - 8, top - 2, top - 1, top, top + 1, top + 8, 1<<61 - 1, 1 << 61,
		1 << 62, 1<<63 - 1, 1 << 63, 1<<63 + 1, math.MaxUint64 - top,
		math.MaxUint64 - top + 1, math.MaxUint64 - 1, math.MaxUint64,
	}
}

// sum: both together, as a tick, reckoned with numbers of any length.
func sum(a, b uint64) uint64 {
	s := new(big.Int).Add(new(big.Int).SetUint64(a), new(big.Int).SetUint64(b))
	if s.Cmp(big.NewInt(top)) > 0 {
		return top
	}
	return s.Uint64()
}

// P4.1: two together, as a tick, of any numbers.
func TestAdd(t *testing.T) {
	cases := []struct{ a, b, want uint64 }{
		{0, 0, 0},
		{5, 3, 8},
		{0, top, top},
		{top, 0, top},
		{1, top - 1, top},
		{1, top - 2, top - 1},
		{1 << 59, 1 << 59, top},
		{1 << 59, 1<<59 - 1, top - 1},
		{top, 1, top},
		{1, top, top},
		{top, top, top},
		{0, top + 1, top},
		{top + 1, 0, top},
		// sums that wrap round in 64 bits
		{1 << 63, 1 << 63, top},
		{math.MaxUint64, 1, top},
		{1, math.MaxUint64, top},
		{math.MaxUint64, math.MaxUint64, top},
	}
	for _, c := range cases {
		if got := Add(c.a, c.b); got != c.want {
			t.Errorf("Add(%d, %d): %d, wanted %d", c.a, c.b, got, c.want)
		}
	}
	for _, a := range edges() {
		for _, b := range edges() {
			if got := Add(a, b); got != sum(a, b) {
				t.Errorf("Add(%d, %d): %d, wanted %d", a, b, got, sum(a, b))
			}
		}
	}
}

// P4.1: a clock is at its tick, at most at MaxTick.
func TestAtAndNow(t *testing.T) {
	for _, tick := range edges() {
		want := tick
		if want > top {
			want = top
		}
		if got := At(tick).Now(); got != want {
			t.Errorf("At(%d).Now(): %d, wanted %d", tick, got, want)
		}
	}
}

// P4.1: what is so many ticks behind now, and the clock that is so much later.
func TestAfterAndTick(t *testing.T) {
	if At(5).After(3) != 8 || At(5).Tick(3).Now() != 8 {
		t.Errorf("At(5): After(3) %d, Tick(3) %d, wanted 8", At(5).After(3), At(5).Tick(3).Now())
	}
	for _, tick := range edges() {
		for _, n := range edges() {
			c := At(tick)
			want := sum(c.Now(), n)
			if got := c.After(n); got != want {
				t.Errorf("At(%d).After(%d): %d, wanted %d", tick, n, got, want)
			}
			if got := c.Tick(n).Now(); got != want {
				t.Errorf("At(%d).Tick(%d): %d, wanted %d", tick, n, got, want)
			}
		}
	}
}

// P4.1: is now at it, or behind it?
func TestReached(t *testing.T) {
	cases := []struct {
		now, tick uint64
		want      bool
	}{
		{0, 0, true},
		{0, 1, false},
		{8, 7, true},
		{8, 8, true},
		{8, 9, false},
		{top - 1, top, false},
		{top, top, true},
		{top, top - 1, true},
		{1 << 62, top, true},
		// what is no tick is never reached
		{top, top + 1, false},
		{0, math.MaxUint64, false},
		{top, math.MaxUint64, false},
	}
	for _, c := range cases {
		if got := At(c.now).Reached(c.tick); got != c.want {
			t.Errorf("At(%d).Reached(%d): %v", c.now, c.tick, got)
		}
	}
}

// P4.1: how many ticks ago; 0 of what is yet to come.
func TestSince(t *testing.T) {
	cases := []struct{ now, tick, want uint64 }{
		{0, 0, 0},
		{5, 2, 3},
		{5, 5, 0},
		{5, 4, 1},
		{5, 0, 5},
		{5, 6, 0},
		{5, 9, 0},
		{0, top, 0},
		{top, 0, top},
		{top, 1, top - 1},
		{top, top, 0},
		{top, top - 1, 1},
		{1 << 62, 0, top},
		{1 << 62, 1 << 60, 0},
		{top, top + 1, 0},
		{5, math.MaxUint64, 0},
		{top, math.MaxUint64, 0},
		{math.MaxUint64, math.MaxUint64, 0},
	}
	for _, c := range cases {
		if got := At(c.now).Since(c.tick); got != c.want {
			t.Errorf("At(%d).Since(%d): %d, wanted %d", c.now, c.tick, got, c.want)
		}
	}
}

// P4.1: the zero Clock is at 0.
func TestZero(t *testing.T) {
	var c Clock
	if c.Now() != 0 || c.After(7) != 7 || c.Tick(7).Now() != 7 || c.Since(0) != 0 || c.Since(1) != 0 {
		t.Error("the zero Clock is at 0")
	}
	if !c.Reached(0) || c.Reached(1) {
		t.Error("the zero Clock has reached 0, and no other tick")
	}
}

// P4.1: a clock is a value: what is done with it leaves it as it was.
func TestTickLeavesIt(t *testing.T) {
	c := At(5)
	d := c.Tick(3)
	e := c.Tick(math.MaxUint64)
	c.After(9)
	if c.Now() != 5 || d.Now() != 8 || e.Now() != top {
		t.Errorf("%d, %d, %d, wanted 5, 8, MaxTick", c.Now(), d.Now(), e.Now())
	}
}

// P4.2: a clock never goes back, however far it goes, and stays at MaxTick.
func TestNeverBack(t *testing.T) {
	for _, first := range edges() {
		for _, n := range edges() {
			c := At(first)
			for range 5 {
				next := c.Tick(n)
				if next.Now() < c.Now() || next.Now() > top {
					t.Fatalf("%d ticks behind %d: %d", n, c.Now(), next.Now())
				}
				if !next.Reached(c.Now()) {
					t.Fatalf("%d ticks behind %d that isn't reached any more", n, c.Now())
				}
				c = next
			}
		}
	}
	c := At(top)
	for _, n := range edges() {
		if c.Tick(n).Now() != top {
			t.Errorf("%d ticks behind MaxTick: %d", n, c.Tick(n).Now())
		}
	}
}

// P4.2: what is n behind now is reached by n ticks, and not by fewer.
func TestReachedByNTicks(t *testing.T) {
	for _, now := range edges() {
		c := At(now)
		for _, n := range edges() {
			then := c.After(n)
			if !c.Tick(n).Reached(then) {
				t.Errorf("now %d: %d ticks don't reach %d", now, n, then)
			}
			if then == top { // it may be reached by fewer there
				continue
			}
			if got := c.Tick(n).Since(c.Now()); got != n {
				t.Errorf("now %d: behind %d ticks that was %d ticks ago", now, n, got)
			}
			for _, fewer := range []uint64{0, n / 2, n - 1} {
				if n > 0 && c.Tick(fewer).Reached(then) {
					t.Errorf("now %d: %d ticks reach %d, which is %d behind", now, fewer, then, n)
				}
			}
		}
	}
}

// P4.2: it is one tick by one, too.
func TestTickByTick(t *testing.T) {
	for _, first := range []uint64{0, 41, 1 << 32, top - 30} {
		c := At(first)
		then := c.After(20)
		for n := range uint64(20) {
			if c.Reached(then) || c.Now() != first+n {
				t.Fatalf("behind %d ticks: now %d, first %d", n, c.Now(), first)
			}
			c = c.Tick(1)
		}
		if !c.Reached(then) {
			t.Fatalf("20 ticks behind %d: now %d", first, c.Now())
		}
	}
}
