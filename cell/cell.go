// Package cell is layer 2: see shared/doc/02-cell.md.
package cell

import (
	"sync/atomic"

	"hackney/word"
)

// Cell is a word that all share.
type Cell struct {
	bits atomic.Uint64
}

// New: one that holds a word.
func New(w word.Word) *Cell {
	c := &Cell{}
	c.bits.Store(uint64(w))
	return c
}

// Load: what it holds.
func (c *Cell) Load() word.Word {
	if c == nil {
		return 0
	}
	return word.Word(c.bits.Load())
}

// Clone: one of its own.
func (c *Cell) Clone() *Cell {
	if c == nil {
		return nil
	}
	return New(c.Load())
}

// Swap: another state, if it holds that word.
func (c *Cell) Swap(old word.Word, state int) (word.Word, bool) {
	if c == nil {
		return 0, false
	}
	// It is looked at ahead of the compare and swap, so that whoever names a
	// word that is yet to come is refused by the word that was held then.
	held := c.Load()
	next, may := old.To(state)
	if held != old || !may {
		return held, false
	}
	if c.bits.CompareAndSwap(uint64(old), uint64(next)) {
		return next, true
	}
	// Somebody else swapped in between, and no word comes again: it can't be
	// the old one that is told beside the false here.
	return c.Load(), false
}
