package cell

import (
	"math"
	"sync"
	"testing"

	"hackney/word"
)

// P2.1: a cell holds what it was made of, any word.
func TestNewAndLoad(t *testing.T) {
	for _, w := range []word.Word{0, 1, 2, 3, 20, 25, math.MaxUint64} {
		c := New(w)
		if c.Load() != w || c.Load() != w {
			t.Errorf("New(%d) holds %d", w, c.Load())
		}
	}
}

// P2.1: what may go on does, what it doesn't hold is refused.
func TestSwap(t *testing.T) {
	c := New(20)
	if got, ok := c.Swap(20, word.InUse); got != 25 || !ok {
		t.Errorf("the first: %d, %v, wanted 25, true", got, ok)
	}
	if got, ok := c.Swap(20, word.InUse); got != 25 || ok {
		t.Errorf("the second: %d, %v, wanted 25, false", got, ok)
	}
	if c.Load() != 25 {
		t.Errorf("it holds %d, wanted 25", c.Load())
	}
	if got, ok := c.Swap(25, word.Free); got != 28 || !ok || c.Load() != 28 {
		t.Errorf("back to Free: %d, %v", got, ok)
	}
}

// P2.1: of all states and old words a swap is done just where the word goes on.
func TestSwapOfAll(t *testing.T) {
	for held := word.Word(0); held < 12; held++ {
		for old := word.Word(0); old < 16; old++ {
			for _, state := range []int{0, 1, 2, 3, -1, -3, 4, 5, math.MinInt, math.MaxInt} {
				c := New(held)
				want, done := held.To(state)
				if old != held {
					want, done = held, false
				}
				got, ok := c.Swap(old, state)
				if got != want || ok != done || c.Load() != want {
					t.Errorf("held %d: Swap(%d, %d): %d, %v, holds %d", held, old, state, got, ok, c.Load())
				}
			}
		}
	}
}

// P2.1: the same state of another version is another word.
func TestSwapOfAnotherVersion(t *testing.T) {
	c := New(word.Of(word.Free, 6))
	for _, version := range []uint64{0, 5, 7, 1<<62 - 1} {
		if got, ok := c.Swap(word.Of(word.Free, version), word.InUse); ok || got != 24 || c.Load() != 24 {
			t.Errorf("version %d: %d, %v", version, got, ok)
		}
	}
}

// P2.1: what is Removed stays so; the last version is followed by the first.
func TestSwapAtTheEdges(t *testing.T) {
	c := New(word.Of(word.Removed, 4))
	for state := -4; state <= 7; state++ {
		if got, ok := c.Swap(19, state); ok || got != 19 || c.Load() != 19 {
			t.Errorf("Swap(19, %d): %d, %v", state, got, ok)
		}
	}
	last := word.Of(word.Free, 1<<62-1)
	d := New(last)
	if got, ok := d.Swap(last, word.Reserved); !ok || got != 2 || d.Load() != 2 {
		t.Errorf("behind the last version: %d, %v", got, ok)
	}
}

// P2.1: a clone and its cell change by themselves.
func TestClone(t *testing.T) {
	c := New(20)
	d := c.Clone()
	if d == c || d.Load() != 20 {
		t.Fatal("a clone is one of its own, and holds the same")
	}
	d.Swap(20, word.Reserved)
	if c.Load() != 20 || d.Load() != 26 {
		t.Errorf("the clone swapped: %d and %d", c.Load(), d.Load())
	}
	c.Swap(20, word.InUse)
	if c.Load() != 25 || d.Load() != 26 {
		t.Errorf("the cell swapped: %d and %d", c.Load(), d.Load())
	}
}

// P2.1: of nil there is nothing.
func TestNil(t *testing.T) {
	var c *Cell
	if c.Load() != 0 {
		t.Error("Load of nil is 0")
	}
	for _, old := range []word.Word{0, 20, math.MaxUint64} {
		for state := -1; state <= 4; state++ {
			if got, ok := c.Swap(old, state); got != 0 || ok {
				t.Errorf("Swap(%d, %d) of nil: %d, %v", old, state, got, ok)
			}
		}
	}
	if c.Clone() != nil {
		t.Error("Clone of nil is nil")
	}
}

// P2.2: of all that swap at once, with one old word, just one does; all others
// are told what that one made of it.
func TestOneSwaps(t *testing.T) {
	const threads = 8
	for round := range 500 {
		old := word.Of(word.Reserved, uint64(round))
		c := New(old)
		var got [threads]word.Word
		var done [threads]bool
		begin := make(chan struct{})
		var all sync.WaitGroup
		for i := range threads {
			all.Go(func() {
				<-begin
				got[i], done[i] = c.Swap(old, []int{word.Free, word.InUse, word.Removed}[i%3])
			})
		}
		close(begin)
		all.Wait()
		n := 0
		for i := range threads {
			if done[i] {
				n++
			}
			if got[i] != c.Load() {
				t.Fatalf("round %d: %d was told %d, it holds %d", round, i, got[i], c.Load())
			}
		}
		if n != 1 {
			t.Fatalf("round %d: %d swapped", round, n)
		}
	}
}

// other: where a word goes that is now InUse, now Free.
func other(w word.Word) int {
	if w.State() == word.Free {
		return word.InUse
	}
	return word.Free
}

// P2.2: no swap is lost, however many go on: each that is done is a version more.
func TestEachSwapCounts(t *testing.T) {
	const threads, each = 8, 2000
	c := New(word.Of(word.Free, 0))
	var done [threads]uint64
	var all sync.WaitGroup
	for i := range threads {
		all.Go(func() {
			for range each {
				old := c.Load()
				got, ok := c.Swap(old, other(old))
				if ok {
					done[i]++
				} else if got == old {
					t.Errorf("Swap(%d, %d) was refused, and told that it holds %d", old, other(old), got)
				}
			}
		})
	}
	all.Wait()
	sum := uint64(0)
	for _, n := range done {
		sum += n
	}
	if c.Load().Version() != sum {
		t.Errorf("%d were done, the version is %d", sum, c.Load().Version())
	}
}

// P2.2: who names a word that is yet to come is never told that very word
// beside a false: where it is held it is swapped.
func TestWordsToCome(t *testing.T) {
	const times = 200000
	c := New(word.Of(word.Free, 0))
	var all sync.WaitGroup
	all.Go(func() {
		for range times {
			w := c.Load()
			c.Swap(w, other(w))
		}
	})
	all.Go(func() {
		for range times {
			w := c.Load()
			next, _ := w.To(other(w))
			if got, ok := c.Swap(next, other(next)); !ok && got == next {
				t.Errorf("Swap(%d, %d) was refused, and told that it holds %d", next, other(next), got)
				return
			}
		}
	})
	all.Wait()
}
