// Package word is layer 1: see shared/doc/01-word.md.
package word

// The states.
const (
	Free     = 0
	InUse    = 1
	Reserved = 2
	Removed  = 3
)

// The state stands in the low bits, so that a word shifted is its version.
const (
	stateBits = 2
	stateMask = 1<<stateBits - 1
)

// Word is a state and a version.
type Word uint64

// Of: of a state and a version.
func Of(state int, version uint64) Word {
	// The shift drops the version's two highest bits: that is modulo 2^62.
	// The mask, unlike the remainder, is from 0 to 3 of numbers below 0, too.
	return Word(version<<stateBits | uint64(state&stateMask))
}

// State: its state.
func (w Word) State() int { return int(w & stateMask) }

// Version: its version.
func (w Word) Version() uint64 { return uint64(w >> stateBits) }

// May: may a state follow another one?
func May(from, to int) bool {
	switch from {
	case Free:
		return to == InUse || to == Reserved
	case InUse:
		return to == Free || to == Removed
	case Reserved:
		return to == Free || to == InUse || to == Removed
	}
	return false
}

// To: the word that goes on.
func (w Word) To(state int) (Word, bool) {
	if !May(w.State(), state) {
		return w, false
	}
	return Of(state, w.Version()+1), true
}

// Name: a state's.
func Name(state int) string {
	switch state {
	case Free:
		return "free"
	case InUse:
		return "inuse"
	case Reserved:
		return "reserved"
	case Removed:
		return "removed"
	}
	return ""
}
