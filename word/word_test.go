package word

import (
	"math"
	"testing"
)

const topVersion = 1<<62 - 1

// P1.1: the word is the version times 4 and the state.
func TestOf(t *testing.T) {
	cases := []struct {
		state   int
		version uint64
		want    Word
	}{
		{Free, 0, 0},
		{Free, 5, 20},
		{InUse, 6, 25},
		{Reserved, 1, 6},
		{Removed, 0, 3},
		{Removed, topVersion, math.MaxUint64},
		{Free, topVersion, math.MaxUint64 - 3},
		// the version modulo 2^62
		{InUse, 1 << 62, 1},
		{Reserved, 1<<62 + 7, 30},
		{Free, 1 << 63, 0},
		{Removed, math.MaxUint64, math.MaxUint64},
		// the state modulo 4, from 0 to 3
		{4, 5, 20},
		{5, 5, 21},
		{7, 0, 3},
		{-1, 0, 3},
		{-2, 5, 22},
		{-3, 5, 21},
		{-4, 5, 20},
		{math.MaxInt, 0, 3},
		{math.MinInt, 1, 4},
		{math.MinInt + 1, 1, 5},
	}
	for _, c := range cases {
		if got := Of(c.state, c.version); got != c.want {
			t.Errorf("Of(%d, %d): %d, wanted %d", c.state, c.version, got, c.want)
		}
	}
}

// P1.1: what a word is made of is told again.
func TestStateAndVersion(t *testing.T) {
	for _, version := range []uint64{0, 1, 2, 5, 1 << 32, 1 << 61, topVersion - 1, topVersion} {
		for state := Free; state <= Removed; state++ {
			w := Of(state, version)
			if w.State() != state || w.Version() != version {
				t.Errorf("Of(%d, %d): state %d, version %d", state, version, w.State(), w.Version())
			}
			if w != Word(version*4+uint64(state)) {
				t.Errorf("Of(%d, %d): %d", state, version, w)
			}
		}
	}
	for _, w := range []Word{0, 3, 20, 25, math.MaxUint64} {
		if Of(w.State(), w.Version()) != w {
			t.Errorf("%d: it isn't made of its state and version", w)
		}
	}
}

// P1.1: the names, and none of other numbers.
func TestName(t *testing.T) {
	want := map[int]string{
		Free: "free", InUse: "inuse", Reserved: "reserved", Removed: "removed",
		-1: "", 4: "", 5: "", -4: "", math.MaxInt: "", math.MinInt: "",
	}
	for state, name := range want {
		if got := Name(state); got != name {
			t.Errorf("Name(%d): %q, wanted %q", state, got, name)
		}
	}
	if Free != 0 || InUse != 1 || Reserved != 2 || Removed != 3 {
		t.Error("the states are 0, 1, 2, 3")
	}
}

// follows: which state may follow which, as the document lists them.
func follows() map[[2]int]bool {
	return map[[2]int]bool{
		{Free, InUse}:       true,
		{Free, Reserved}:    true,
		{InUse, Free}:       true,
		{InUse, Removed}:    true,
		{Reserved, Free}:    true,
		{Reserved, InUse}:   true,
		{Reserved, Removed}: true,
	}
}

// P1.2: those that are listed may follow, and no others.
func TestMay(t *testing.T) {
	numbers := []int{Free, InUse, Reserved, Removed, -1, -2, -3, -4, 4, 5, 6, 7, math.MaxInt, math.MinInt}
	want := follows()
	for _, from := range numbers {
		for _, to := range numbers {
			if got := May(from, to); got != want[[2]int{from, to}] {
				t.Errorf("May(%d, %d): %v", from, to, got)
			}
		}
	}
}

// P1.2: a word goes on with the next version, or is told as it was.
func TestTo(t *testing.T) {
	want := follows()
	for _, version := range []uint64{0, 5, 1 << 40, topVersion - 1} {
		for from := Free; from <= Removed; from++ {
			for _, to := range []int{Free, InUse, Reserved, Removed, -1, -3, 4, 5, math.MaxInt, math.MinInt} {
				w := Of(from, version)
				got, ok := w.To(to)
				if !want[[2]int{from, to}] {
					if ok || got != w {
						t.Errorf("%d To(%d): %d, %v, wanted itself, false", w, to, got, ok)
					}
					continue
				}
				if !ok || got != Of(to, version+1) {
					t.Errorf("%d To(%d): %d, %v, wanted %d, true", w, to, got, ok, Of(to, version+1))
				}
			}
		}
	}
	if got, ok := Word(20).To(InUse); got != 25 || !ok {
		t.Errorf("20 To(InUse): %d, %v, wanted 25, true", got, ok)
	}
}

// P1.2: behind the last version comes the first one.
func TestToBehindTheLastVersion(t *testing.T) {
	if got, ok := Of(Free, topVersion).To(InUse); got != 1 || !ok {
		t.Errorf("To(InUse): %d, %v, wanted 1, true", got, ok)
	}
	if got, ok := Of(Reserved, topVersion).To(Removed); got != 3 || !ok {
		t.Errorf("To(Removed): %d, %v, wanted 3, true", got, ok)
	}
	if got, ok := Of(InUse, topVersion).To(Reserved); got != Of(InUse, topVersion) || ok {
		t.Errorf("To(Reserved): %d, %v, wanted itself, false", got, ok)
	}
}

// P1.3: no word that goes on is one that was.
func TestNoWordComesAgain(t *testing.T) {
	for _, first := range []Word{Of(Free, 0), Of(InUse, 77), Of(Reserved, topVersion-500)} {
		was := map[Word]bool{first: true}
		w := first
		for i := range 3000 {
			next, ok := w.To((i * 7) % Removed) // one of Free, InUse, Reserved
			if !ok {
				if next, ok = w.To((w.State() + 2) % Removed); !ok {
					next, ok = w.To(Free)
				}
			}
			if !ok {
				t.Fatalf("%d goes on to nothing", w)
			}
			if was[next] {
				t.Fatalf("%d goes on to %d, which was", w, next)
			}
			was[next] = true
			w = next
		}
	}
}

// P1.3: nothing goes on from Removed.
func TestNothingFollowsRemoved(t *testing.T) {
	for _, version := range []uint64{0, 1, 9, topVersion} {
		w := Of(Removed, version)
		for state := -9; state <= 9; state++ {
			if got, ok := w.To(state); ok || got != w {
				t.Errorf("%d To(%d): %d, %v", w, state, got, ok)
			}
		}
	}
}
