package picks

import (
	"math"
	"math/big"
	"math/rand"
	"slices"
	"testing"
)

// next: this one's turn it is, of so many.
func next(t *testing.T, what string, p *Picks, n, want int) {
	t.Helper()
	if got, ok := p.Next(n); got != want || !ok {
		t.Errorf("%s: Next(%d): %d, %v, wanted %d, true", what, n, got, ok, want)
	}
}

// some: so many times it is these ones' turn.
func some(t *testing.T, what string, p *Picks, n, k int, want ...int) {
	t.Helper()
	if got := p.Some(n, k); !slices.Equal(got, want) {
		t.Errorf("%s: Some(%d, %d): %v, wanted %v", what, n, k, got, want)
	}
}

// left: so many numbers are left.
func left(t *testing.T, what string, p *Picks, want int) {
	t.Helper()
	if got := p.Left(); got != want {
		t.Errorf("%s: Left: %d, wanted %d", what, got, want)
	}
}

// P8.1: the script, one number a time, and then in turn.
func TestNext(t *testing.T) {
	p := New(7, -1)
	left(t, "new", p, 2)
	for i, want := range []int{1, 2, 0, 1, 2, 0, 1, 2, 0} {
		next(t, "7, -1", p, 3, want)
		left(t, "7, -1", p, max(0, 1-i))
	}
}

// P8.1: without a script, in turn from the first on.
func TestNextWithoutAScript(t *testing.T) {
	for _, p := range []*Picks{New(), New([]int{}...), New([]int(nil)...)} {
		left(t, "none", p, 0)
		for _, want := range []int{0, 1, 2, 3, 0, 1, 2, 3, 0} {
			next(t, "none", p, 4, want)
		}
		left(t, "none", p, 0)
	}
}

// P8.1: of one it is always that one's turn.
func TestNextOfOne(t *testing.T) {
	p := New(5, 0, -3, math.MaxInt, math.MinInt)
	for range 12 {
		next(t, "of one", p, 1, 0)
	}
	left(t, "of one", p, 0)
}

// P8.1: the turns are counted, of however many each is.
func TestNextOfOthers(t *testing.T) {
	p := New(9, 9, 9)
	next(t, "script", p, 2, 1)
	next(t, "script", p, 5, 4)
	next(t, "script", p, 10, 9)
	for k, n := range []int{3, 2, 5, 3, 4, 10, 1, 5, 8, 4} { // the k-th time
		next(t, "behind it", p, n, k%n)
	}
}

// P8.1: modulo n is from 0 to n less 1, whatever the number is.
func TestNextIsModulo(t *testing.T) {
	numbers := []int{0, 1, 2, 3, 7, 8, -1, -2, -3, -4, -7, -8, 1000, -1000,
		math.MaxInt, math.MaxInt - 1, math.MinInt, math.MinInt + 1}
	sizes := []int{1, 2, 3, 4, 7, 8, 1000, 1 << 40, math.MaxInt - 1, math.MaxInt}
	for _, a := range numbers {
		for _, n := range sizes {
			next(t, "modulo", New(a), n, byHand(a, n))
		}
	}
	r := rand.New(rand.NewSource(1))
	for range 5000 {
		a, n := int(r.Uint64())>>r.Intn(64), 1+r.Intn(1<<r.Intn(62))
		next(t, "modulo", New(a), n, byHand(a, n))
	}
}

// byHand: modulo, as reckoned with numbers of any length.
func byHand(a, n int) int {
	return int(new(big.Int).Mod(big.NewInt(int64(a)), big.NewInt(int64(n))).Int64())
}

// P8.1: of an n that isn't from 1 on nothing is told, and nothing is gone.
func TestNextOfNone(t *testing.T) {
	p := New(4, 5)
	none := func(what string) {
		t.Helper()
		for _, n := range []int{0, -1, -2, -7, math.MinInt} {
			if got, ok := p.Next(n); got != 0 || ok {
				t.Errorf("%s: Next(%d): %d, %v", what, n, got, ok)
			}
		}
	}
	none("new")
	left(t, "new", p, 2)
	next(t, "the first", p, 8, 4)
	none("one left")
	left(t, "one left", p, 1)
	next(t, "the second", p, 8, 5)
	for k := range 10 {
		none("behind")
		next(t, "behind", p, 8, k%8)
	}
}

// P8.1: what is done with a clone leaves its original, and the other way.
func TestClone(t *testing.T) {
	p := New(1, 2, 3)
	next(t, "p", p, 9, 1)
	q := p.Clone()
	if p == q {
		t.Fatal("a clone is one of its own")
	}
	left(t, "a clone", q, 2)
	some(t, "the clone", q, 9, 4, 2, 3, 0, 1)
	left(t, "p", p, 2)
	some(t, "p", p, 9, 3, 2, 3, 0)
	left(t, "the clone", q, 0)
	next(t, "the clone", q, 9, 2)
	next(t, "p", p, 9, 1)

	r := q.Clone() // its turns are counted on
	next(t, "a clone's clone", r, 9, 3)
	next(t, "a clone's clone", r, 9, 4)
	next(t, "the clone", q, 9, 3)
	some(t, "a clone of none", New().Clone(), 2, 3, 0, 1, 0)
}

// P8.1: the list that is handed in is neither changed nor kept.
func TestNewKeepsNothing(t *testing.T) {
	room := []int{1, 2, 3, 4, 5}
	l := room[:3]
	p := New(l...)
	l[0], room[3] = 8, 9
	some(t, "p", p, 10, 5, 1, 2, 3, 0, 1)
	if !slices.Equal(room, []int{8, 2, 3, 9, 5}) {
		t.Errorf("the list is %v", room)
	}
	a, b := New(l...), New(l...)
	some(t, "one", a, 10, 3, 8, 2, 3)
	some(t, "another one of the same", b, 10, 3, 8, 2, 3)
}

// P8.1: numbers are as many as one likes.
func TestNextOfMany(t *testing.T) {
	var l []int
	for i := range 20000 {
		l = append(l, i*i-7*i)
	}
	p := New(l...)
	for i, a := range l {
		left(t, "many", p, len(l)-i)
		next(t, "many", p, 13, byHand(a, 13))
	}
	some(t, "behind many", p, 13, 3, 0, 1, 2)
}

// P8.2: so many times Next, from wherever it is.
func TestSome(t *testing.T) {
	some(t, "within the script", New(7, -1, 5), 3, 2, 1, 2)
	some(t, "just the script", New(7, -1, 5), 3, 3, 1, 2, 2)
	some(t, "behind it", New(7, -1), 3, 6, 1, 2, 0, 1, 2, 0)
	some(t, "without one", New(), 4, 6, 0, 1, 2, 3, 0, 1)
	some(t, "one", New(), 4, 1, 0)
	p := New(5)
	some(t, "first", p, 4, 3, 1, 0, 1)
	next(t, "then", p, 4, 2)
	some(t, "and then", p, 4, 2, 3, 0)
	next(t, "at last", p, 4, 1)
}

// P8.2: it goes on as so many Nexts do.
func TestSomeIsNext(t *testing.T) {
	r := rand.New(rand.NewSource(2))
	for range 300 {
		var l []int
		for range r.Intn(12) {
			l = append(l, r.Intn(41)-20)
		}
		p, q := New(l...), New(l...)
		for range 6 {
			n, k := r.Intn(11)-1, r.Intn(9)-1
			var want []int
			for i := 0; i < k && n > 0; i++ {
				got, _ := q.Next(n)
				want = append(want, got)
			}
			some(t, "as Next", p, n, k, want...)
			left(t, "as Next", p, q.Left())
		}
	}
}

// P8.2: none of a k below 0, or 0, or of an n that isn't from 1 on: nothing is gone.
func TestSomeOfNone(t *testing.T) {
	p := New(4, 5)
	none := func(what string) {
		t.Helper()
		for _, k := range []int{0, -1, -5, math.MinInt} {
			some(t, what, p, 3, k)
		}
		for _, n := range []int{0, -1, -9, math.MinInt} {
			some(t, what, p, n, 3)
			some(t, what, p, n, math.MaxInt)
			some(t, what, p, n, -1)
		}
	}
	none("new")
	left(t, "new", p, 2)
	some(t, "the script", p, 8, 2, 4, 5)
	none("behind")
	some(t, "behind", p, 8, 2, 0, 1)
	none("further behind")
	some(t, "further behind", p, 8, 2, 2, 3)
}

// P8.2: no more than 10000 times, and no more are gone.
func TestSomeAtMost(t *testing.T) {
	for k, want := range map[int]int{9999: 9999, 10000: 10000, 10001: 10000, 1 << 40: 10000, math.MaxInt: 10000} {
		p := New(3)
		got := p.Some(7, k)
		if len(got) != want {
			t.Errorf("Some(7, %d): %d of them", k, len(got))
			continue
		}
		if got[0] != 3 || got[want-1] != (want-2)%7 {
			t.Errorf("Some(7, %d): from %d to %d", k, got[0], got[want-1])
		}
		next(t, "behind", p, 7, (want-1)%7)
	}
	long := New(make([]int, 10003)...)
	if got := long.Some(2, 20000); len(got) != 10000 {
		t.Errorf("of a long script: %d", len(got))
	}
	left(t, "a long script", long, 3)
}

// P8.2: an answer shares nothing with the script, or with another answer.
func TestSomeIsNewMemory(t *testing.T) {
	p := New(1, 2, 3, 4)
	a := p.Some(9, 2)
	a[0], a[1] = 8, 8
	_ = append(a, 8)
	b := p.Some(9, 2)
	if !slices.Equal(b, []int{3, 4}) || !slices.Equal(a, []int{8, 8}) {
		t.Errorf("%v, %v", a, b)
	}
}

// P8.2: what is told of nil.
func TestNil(t *testing.T) {
	var p *Picks
	for _, n := range []int{-1, 0, 1, 3} {
		if got, ok := p.Next(n); got != 0 || ok {
			t.Errorf("Next(%d): %d, %v", n, got, ok)
		}
		for _, k := range []int{-1, 0, 1, 5} {
			some(t, "nil", p, n, k)
		}
	}
	left(t, "nil", p, 0)
	if p.Clone() != nil {
		t.Error("its clone isn't nil")
	}
}

// P8.3: behind the script each of n has its turn within any n times.
func TestEachHasItsTurn(t *testing.T) {
	for n := 1; n <= 9; n++ {
		for before := range 25 { // wherever those n times begin
			p := New(3, 3, 3)
			p.Some(4, 3+before)
			left(t, "behind", p, 0)
			was := map[int]bool{}
			for _, one := range p.Some(n, n) {
				was[one] = true
			}
			if len(was) != n {
				t.Errorf("%d times before, %d of %d had their turn", before, len(was), n)
			}
		}
	}
}
