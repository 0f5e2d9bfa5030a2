package snap

import (
	"math"
	"slices"
	"sync"
	"testing"
)

// is: a snap is these numbers, by whatever it is asked.
func is(t *testing.T, what string, s Snap, want ...uint64) {
	t.Helper()
	if got := s.All(); !slices.Equal(got, want) {
		t.Errorf("%s: %v, wanted %v", what, got, want)
	}
	if s.Len() != len(want) {
		t.Errorf("%s: Len %d, wanted %d", what, s.Len(), len(want))
	}
	for i, n := range want {
		if got, ok := s.At(i); got != n || !ok {
			t.Errorf("%s: At(%d): %d, %v, wanted %d, true", what, i, got, ok, n)
		}
		if got := s.Index(n); got != i {
			t.Errorf("%s: Index(%d): %d, wanted %d", what, n, got, i)
		}
	}
	for _, i := range []int{-1, -2, len(want), len(want) + 1, math.MinInt, math.MaxInt} {
		if got, ok := s.At(i); got != 0 || ok {
			t.Errorf("%s: At(%d): %d, %v, wanted 0, false", what, i, got, ok)
		}
	}
}

// P3.1: each number once, where it stands first, in the order that is given.
func TestOf(t *testing.T) {
	cases := []struct{ of, want []uint64 }{
		{nil, nil},
		{[]uint64{}, nil},
		{[]uint64{7}, []uint64{7}},
		{[]uint64{0}, []uint64{0}},
		{[]uint64{1, 2, 1}, []uint64{1, 2}},
		{[]uint64{1, 2, 1, 3}, []uint64{1, 2, 3}},
		{[]uint64{3, 1, 2}, []uint64{3, 1, 2}},
		{[]uint64{5, 5, 5, 5}, []uint64{5}},
		{[]uint64{2, 1, 1, 2, 0, 0}, []uint64{2, 1, 0}},
		{[]uint64{math.MaxUint64, 0, math.MaxUint64}, []uint64{math.MaxUint64, 0}},
		{[]uint64{1 << 32, 0, 1 << 63, 1 << 32}, []uint64{1 << 32, 0, 1 << 63}},
	}
	for _, c := range cases {
		is(t, "Of", Of(c.of...), c.want...)
	}
	is(t, "Of of nothing", Of())
	is(t, "Of(1, 2, 1)", Of(1, 2, 1), 1, 2)
}

// P3.1: a number that isn't there is put behind; else it is the same.
func TestWith(t *testing.T) {
	is(t, "of none", Of().With(4), 4)
	is(t, "of none, 0", Of().With(0), 0)
	is(t, "behind", Of(3, 1).With(2), 3, 1, 2)
	is(t, "the first again", Of(3, 1, 2).With(3), 3, 1, 2)
	is(t, "one between again", Of(3, 1, 2).With(1), 3, 1, 2)
	is(t, "the last again", Of(3, 1, 2).With(2), 3, 1, 2)
	is(t, "0 behind", Of(1).With(0), 1, 0)
	is(t, "the greatest", Of(1).With(math.MaxUint64), 1, math.MaxUint64)
	is(t, "one behind the other", Of().With(2).With(1).With(2).With(3), 2, 1, 3)
}

// P3.1: a number that is there goes, all others stay in order.
func TestWithout(t *testing.T) {
	is(t, "of none", Of().Without(4))
	is(t, "of none, 0", Of().Without(0))
	is(t, "the first", Of(3, 1, 2).Without(3), 1, 2)
	is(t, "one between", Of(3, 1, 2).Without(1), 3, 2)
	is(t, "the last", Of(3, 1, 2).Without(2), 3, 1)
	is(t, "the only one", Of(9).Without(9))
	is(t, "one that isn't there", Of(3, 1, 2).Without(4), 3, 1, 2)
	is(t, "0, which isn't there", Of(3, 1, 2).Without(0), 3, 1, 2)
	is(t, "0, which is there", Of(3, 0, 2).Without(0), 3, 2)
	is(t, "and behind again", Of(3, 1, 2).Without(3).With(3), 1, 2, 3)
}

// P3.1: what isn't there has no place.
func TestIndexOfNone(t *testing.T) {
	for _, s := range []Snap{{}, Of(), Of(1, 2, 3), Of(1, 2, 3, 9).Without(9)} {
		for _, n := range []uint64{0, 4, 9, math.MaxUint64} {
			if got := s.Index(n); got != -1 {
				t.Errorf("%v: Index(%d): %d, wanted -1", s.All(), n, got)
			}
		}
	}
}

// P3.1: the zero Snap has none, and may be asked like any other.
func TestZero(t *testing.T) {
	var s Snap
	is(t, "zero", s)
	is(t, "zero with", s.With(1), 1)
	is(t, "zero without", s.Without(1))
	is(t, "zero", s)
}

// P3.1: many numbers, each of them twice.
func TestMany(t *testing.T) {
	const many = 5000
	var l, want []uint64
	for i := range uint64(many) {
		n := i * 2654435761 % 1000003
		l = append(l, n, n)
		want = append(want, n)
	}
	l = append(l, want...)
	is(t, "many", Of(l...), want...)
}

// P3.2: what was taken stays, though others are made of it.
func TestStays(t *testing.T) {
	s := Of(1, 2, 3)
	a, b := s.With(4), s.With(5)
	c, d := s.Without(1), s.Without(3)
	e, f := a.With(6), a.With(7)
	g, h := d.With(8), d.With(9)
	is(t, "s", s, 1, 2, 3)
	is(t, "a", a, 1, 2, 3, 4)
	is(t, "b", b, 1, 2, 3, 5)
	is(t, "c", c, 2, 3)
	is(t, "d", d, 1, 2)
	is(t, "e", e, 1, 2, 3, 4, 6)
	is(t, "f", f, 1, 2, 3, 4, 7)
	is(t, "g", g, 1, 2, 8)
	is(t, "h", h, 1, 2, 9)
}

// P3.2: of each length two are made, one of which must not write into the
// other's room, whatever room there is.
func TestStaysAtEachLength(t *testing.T) {
	s := Of()
	var want []uint64
	for n := range uint64(100) {
		a, b := s.With(1000+n), s.With(2000+n)
		is(t, "a", a, append(slices.Clone(want), 1000+n)...)
		is(t, "b", b, append(slices.Clone(want), 2000+n)...)
		is(t, "s", s, want...)
		if n > 0 {
			first, rest := s.Without(0), s.Without(n-1).With(3000+n)
			is(t, "first", first, want[1:]...)
			is(t, "rest", rest, append(slices.Clone(want[:n-1]), 3000+n)...)
			is(t, "s", s, want...)
		}
		s = s.With(n)
		want = append(want, n)
	}
}

// P3.2, Memory: what is handed in is neither changed nor kept.
func TestOfLeavesItsList(t *testing.T) {
	room := []uint64{2, 1, 2, 3, 3, 77, 78}
	l := room[:5]
	s := Of(l...)
	u := s.With(50).Without(2)
	if !slices.Equal(room, []uint64{2, 1, 2, 3, 3, 77, 78}) {
		t.Errorf("the list that was handed in: %v", room)
	}
	for i := range room {
		room[i] = 99
	}
	is(t, "s", s, 2, 1, 3)
	is(t, "u", u, 1, 3, 50)

	once := []uint64{4, 5, 6} // nothing twice: nothing would have to be copied
	v := Of(once...)
	once[0] = 99
	is(t, "v", v, 4, 5, 6)
}

// P3.2, Memory: each answer is new memory, spare room included.
func TestAllIsNew(t *testing.T) {
	s := Of(1, 2, 3)
	made := []Snap{s, s.With(4), s.With(2), s.Without(2), s.Without(9), s.Without(1), s.Without(3)}
	wants := [][]uint64{{1, 2, 3}, {1, 2, 3, 4}, {1, 2, 3}, {1, 3}, {1, 2, 3}, {2, 3}, {1, 2}}
	var told [][]uint64
	for range 2 {
		for _, m := range made {
			told = append(told, m.All())
		}
	}
	for i, l := range told {
		if !slices.Equal(l, wants[i%len(wants)]) {
			t.Fatalf("told %v, wanted %v", l, wants[i%len(wants)])
		}
		whole := l[:cap(l)]
		for j := range whole {
			whole[j] = 99
		}
		_ = append(l, 98)
	}
	for i, m := range made {
		is(t, "behind it", m, wants[i]...)
	}
}

// ways: all lists of so many numbers below a bound.
func ways(length int, below uint64) [][]uint64 {
	out := [][]uint64{nil}
	for range length {
		var next [][]uint64
		for _, l := range out {
			for n := range below {
				next = append(next, append(slices.Clone(l), n))
			}
		}
		out = next
	}
	return out
}

// once: each number of a list where it stands first, by the plainest means.
func once(l []uint64) []uint64 {
	var out []uint64
	for _, n := range l {
		if !slices.Contains(out, n) {
			out = append(out, n)
		}
	}
	return out
}

// P3.1, P3.2: of all short lists, what is made of them, and what stays.
func TestAllShortLists(t *testing.T) {
	for length := range 6 {
		for _, l := range ways(length, 4) {
			s, want := Of(l...), once(l)
			is(t, "Of", s, want...)
			for n := range uint64(5) {
				less := slices.DeleteFunc(slices.Clone(want), func(x uint64) bool { return x == n })
				is(t, "With", s.With(n), once(append(slices.Clone(want), n))...)
				is(t, "Without", s.Without(n), less...)
				is(t, "without, then with", s.Without(n).With(n), append(less, n)...)
			}
			is(t, "it stays", s, want...)
		}
	}
}

// P3.2: many at once make others of one snap: it stays, and so do theirs.
func TestStaysForAll(t *testing.T) {
	s := Of(1, 2, 3, 4, 5)
	var made [8]Snap
	var all sync.WaitGroup
	for i := range made {
		all.Go(func() {
			for n := range uint64(200) {
				made[i] = s.With(100 + n).Without(uint64(i)).With(uint64(i) + 1000)
			}
		})
	}
	all.Wait()
	is(t, "s", s, 1, 2, 3, 4, 5)
	for i, m := range made {
		want := []uint64{1, 2, 3, 4, 5, 299, uint64(i) + 1000}
		want = slices.DeleteFunc(want, func(n uint64) bool { return n == uint64(i) })
		is(t, "made", m, want...)
	}
}
