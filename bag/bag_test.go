package bag

import (
	"cmp"
	"math"
	"math/rand"
	"slices"
	"sync"
	"testing"

	"hackney/api"
	"hackney/snap"
	"hackney/word"
)

const top = api.MaxTick

// ticks: such as may be handed in, those above the last one, too.
var ticks = []uint64{0, 1, 5, top - 1, top, top + 1, 1 << 63, math.MaxUint64}

// noStates: numbers that aren't a state's.
var noStates = []int{-1, -4, 4, 5, 8, math.MinInt, math.MaxInt}

// enters: it enters, or that is wrong.
func enters(t *testing.T, what string, b *Bag, id uint64, state int, now uint64, want api.Errno) {
	t.Helper()
	if got := b.Enter(id, state, now); got != want {
		t.Errorf("%s: Enter(%d, %d, %d): %d, wanted %d", what, id, state, now, got, want)
	}
}

// swaps: it is told that word, and whether it was done.
func swaps(t *testing.T, what string, b *Bag, id uint64, old word.Word, state int, now uint64, want word.Word, done bool) {
	t.Helper()
	if got, ok := b.Swap(id, old, state, now); got != want || ok != done {
		t.Errorf("%s: Swap(%d, %d, %d, %d): %d, %v, wanted %d, %v", what, id, old, state, now, got, ok, want, done)
	}
}

// tells: a call told that error.
func tells(t *testing.T, what string, got, want api.Errno) {
	t.Helper()
	if got != want {
		t.Errorf("%s: %d, wanted %d", what, got, want)
	}
}

// has: just these entries, rising, by whatever it is asked that leaves it.
func has(t *testing.T, what string, b *Bag, want ...Entry) {
	t.Helper()
	var ids []uint64
	count := map[int]int{}
	for _, x := range want {
		ids = append(ids, x.ID)
		count[x.Word.State()]++
		if got, ok := b.Entry(x.ID); got != x || !ok {
			t.Errorf("%s: Entry(%d): %v, %v, wanted %v, true", what, x.ID, got, ok, x)
		}
		if got, ok := b.Load(x.ID); got != x.Word || !ok {
			t.Errorf("%s: Load(%d): %d, %v, wanted %d, true", what, x.ID, got, ok, x.Word)
		}
	}
	if got := b.IDs(); !slices.Equal(got, ids) {
		t.Errorf("%s: IDs %v, wanted %v", what, got, ids)
	}
	for _, state := range append([]int{word.Free, word.InUse, word.Reserved, word.Removed}, noStates...) {
		if got := b.Count(state); got != count[state] {
			t.Errorf("%s: Count(%d): %d, wanted %d", what, state, got, count[state])
		}
	}
}

// lists: just these ids, in that order.
func lists(t *testing.T, what string, b *Bag, want ...uint64) {
	t.Helper()
	if got := b.List().All(); !slices.Equal(got, want) {
		t.Errorf("%s: List %v, wanted %v", what, got, want)
	}
}

// lacks: of these ids there is no entry, and nothing can be done with them.
func lacks(t *testing.T, what string, b *Bag, wrong api.Errno, ids ...uint64) {
	t.Helper()
	for _, id := range ids {
		if got, ok := b.Load(id); got != 0 || ok {
			t.Errorf("%s: Load(%d): %d, %v, wanted 0, false", what, id, got, ok)
		}
		if got, ok := b.Entry(id); got != (Entry{}) || ok {
			t.Errorf("%s: Entry(%d): %v, %v, wanted the zero one, false", what, id, got, ok)
		}
		for state := -1; state <= 4; state++ {
			swaps(t, what, b, id, 0, state, 3, 0, false)
			swaps(t, what, b, id, 20, state, 3, 0, false)
		}
		tells(t, what+": Proved", b.Proved(id, 3), wrong)
		tells(t, what+": Publish", b.Publish(id), wrong)
		tells(t, what+": Unlist", b.Unlist(id), wrong)
	}
}

// fresh: an entry as it is at first.
func fresh(id uint64, state int, now uint64) Entry {
	return Entry{id, word.Of(state, 0), now, now, now}
}

// of: a bag of these ids, free since 5.
func of(t *testing.T, ids ...uint64) *Bag {
	t.Helper()
	b := New()
	for _, id := range ids {
		enters(t, "of", b, id, word.Free, 5, api.OK)
	}
	return b
}

// P15.1: a new bag has no entries, and is one of its own.
func TestNew(t *testing.T) {
	a, b := New(), New()
	has(t, "new", b)
	lists(t, "new", b)
	lacks(t, "new", b, api.ErrUnknown, 0, 1, 2, math.MaxUint64)
	enters(t, "another", a, 1, word.Free, 5, api.OK)
	tells(t, "another", a.Publish(1), api.OK)
	has(t, "the other one", b)
	lists(t, "the other one", b)
}

// P15.1: the example.
func TestExample(t *testing.T) {
	b := New()
	enters(t, "the example", b, 1, word.Free, 5, api.OK)
	has(t, "the example", b, fresh(1, word.Free, 5))
	swaps(t, "the example", b, 1, 0, word.InUse, 6, 5, true)
	has(t, "behind it", b, Entry{1, 5, 5, 5, 5})
}

// P15.1: in any of the states, of the version 0; all ticks are now, and it
// isn't listed.
func TestEnter(t *testing.T) {
	b := New()
	var want []Entry
	id := uint64(0)
	for state := word.Free; state <= word.Removed; state++ {
		for _, now := range ticks {
			id++
			enters(t, "enter", b, id, state, now, api.OK)
			want = append(want, fresh(id, state, now))
		}
	}
	has(t, "entered", b, want...)
	lists(t, "entered", b)
	enters(t, "the last id", b, math.MaxUint64, word.Reserved, 9, api.OK)
	has(t, "the last id", b, append(want, fresh(math.MaxUint64, word.Reserved, 9))...)
	lacks(t, "no others", b, api.ErrUnknown, 0, id+1, math.MaxUint64-1)
}

// P15.1: no id 0, and no other state, whatever else is wrong.
func TestEnterOutOfRange(t *testing.T) {
	b := of(t, 1)
	for state := word.Free; state <= word.Removed; state++ {
		enters(t, "the id 0", b, 0, state, 3, api.ErrRange)
	}
	for _, state := range noStates {
		enters(t, "no state", b, 2, state, 3, api.ErrRange)
		enters(t, "no state, and twice", b, 1, state, 3, api.ErrRange)
		enters(t, "no state of the id 0", b, 0, state, 3, api.ErrRange)
	}
	has(t, "as it was", b, fresh(1, word.Free, 5))
	lacks(t, "as it was", b, api.ErrUnknown, 0, 2)
}

// P15.1: no id enters twice, in whatever state it is; it stays as it was.
func TestEnterTwice(t *testing.T) {
	for first := word.Free; first <= word.Removed; first++ {
		b := New()
		enters(t, "first", b, 7, first, 5, api.OK)
		tells(t, "first", b.Publish(7), api.OK)
		for state := word.Free; state <= word.Removed; state++ {
			enters(t, "twice", b, 7, state, 9, api.ErrTwice)
		}
		has(t, "twice", b, fresh(7, first, 5))
		lists(t, "twice", b, 7)
	}
	b := of(t, 7)
	swaps(t, "on", b, 7, 0, word.Reserved, 6, 6, true)
	swaps(t, "on", b, 7, 6, word.Removed, 6, 11, true)
	enters(t, "removed", b, 7, word.Free, 9, api.ErrTwice)
	has(t, "removed", b, Entry{7, 11, 5, 5, 5})
}

// P15.1: of all states and old words a swap is done just where the word goes
// on; free since then is just what goes on to Free.
func TestSwapOfAll(t *testing.T) {
	for held := word.Free; held <= word.Removed; held++ {
		for old := word.Word(0); old < 8; old++ {
			for _, state := range append([]int{0, 1, 2, 3}, noStates...) {
				b := of(t, 2)
				enters(t, "one", b, 1, held, 5, api.OK)
				x := fresh(1, held, 5)
				next, done := x.Word, false
				if old == x.Word {
					next, done = x.Word.To(state)
				}
				if done && state == word.Free {
					x.Since = 9
				}
				swaps(t, "of all", b, 1, old, state, 9, next, done)
				x.Word = next
				has(t, "of all", b, x, fresh(2, word.Free, 5))
			}
		}
	}
}

// P15.1: its versions count; since is kept as it is handed in, and stays while
// it isn't free.
func TestSwapOnAndOn(t *testing.T) {
	for _, now := range ticks {
		b := of(t, 1)
		swaps(t, "taken", b, 1, 0, word.InUse, 7, 5, true)
		has(t, "taken", b, Entry{1, 5, 5, 5, 5})
		swaps(t, "twice", b, 1, 0, word.InUse, 7, 5, false)
		swaps(t, "of another version", b, 1, 1, word.Free, 7, 5, false)
		swaps(t, "one that is yet to come", b, 1, 8, word.InUse, 7, 5, false)
		has(t, "taken still", b, Entry{1, 5, 5, 5, 5})
		swaps(t, "free", b, 1, 5, word.Free, now, 8, true)
		has(t, "free", b, Entry{1, 8, 5, now, 5})
		swaps(t, "free already", b, 1, 8, word.Free, 3, 8, false)
		swaps(t, "free already", b, 1, 5, word.Free, 3, 8, false)
		swaps(t, "removed", b, 1, 8, word.Removed, 3, 8, false)
		has(t, "free still", b, Entry{1, 8, 5, now, 5})
		swaps(t, "reserved", b, 1, 8, word.Reserved, 12, 14, true)
		swaps(t, "in use", b, 1, 14, word.InUse, 13, 17, true)
		has(t, "in use", b, Entry{1, 17, 5, now, 5})
		swaps(t, "free", b, 1, 17, word.Free, 2, 20, true)
		has(t, "a tick that was", b, Entry{1, 20, 5, 2, 5})
	}
}

// P15.1: it was proved then, whatever state it is in; all else stays.
func TestProved(t *testing.T) {
	for state := word.Free; state <= word.Removed; state++ {
		b := of(t, 2)
		enters(t, "one", b, 1, state, 5, api.OK)
		for _, now := range append(ticks, 3) {
			tells(t, "proved", b.Proved(1, now), api.OK)
			has(t, "proved", b, Entry{1, word.Of(state, 0), 5, 5, now}, fresh(2, word.Free, 5))
		}
	}
	b := of(t, 1)
	swaps(t, "on", b, 1, 0, word.InUse, 6, 5, true)
	tells(t, "proved", b.Proved(1, 7), api.OK)
	swaps(t, "on", b, 1, 5, word.Free, 8, 8, true)
	has(t, "all ticks", b, Entry{1, 8, 5, 8, 7})
}

// P15.1, P15.2: what isn't there can't be proved, listed, or unlisted, and
// nothing is there then.
func TestUnknown(t *testing.T) {
	b := of(t, 1, 3)
	tells(t, "3", b.Publish(3), api.OK)
	lacks(t, "unknown", b, api.ErrUnknown, 0, 2, 4, math.MaxUint64)
	has(t, "as it was", b, fresh(1, word.Free, 5), fresh(3, word.Free, 5))
	lists(t, "as it was", b, 3)
}

// P15.2: listed is one behind the other, and each once; what isn't listed
// any more has its place no more.
func TestList(t *testing.T) {
	b := of(t, 1, 2, 3, 4)
	for _, id := range []uint64{3, 1, 3, 4, 1, 4} {
		tells(t, "publish", b.Publish(id), api.OK)
	}
	lists(t, "where they stood", b, 3, 1, 4)
	tells(t, "2", b.Unlist(2), api.OK)
	lists(t, "never listed", b, 3, 1, 4)
	tells(t, "1", b.Unlist(1), api.OK)
	lists(t, "without 1", b, 3, 4)
	tells(t, "1", b.Unlist(1), api.OK)
	lists(t, "without 1 again", b, 3, 4)
	tells(t, "1", b.Publish(1), api.OK)
	tells(t, "2", b.Publish(2), api.OK)
	lists(t, "behind all others", b, 3, 4, 1, 2)
	for _, id := range []uint64{2, 3, 1, 4} {
		tells(t, "unlist", b.Unlist(id), api.OK)
	}
	lists(t, "none", b)
	has(t, "all there still", b, fresh(1, word.Free, 5), fresh(2, word.Free, 5), fresh(3, word.Free, 5), fresh(4, word.Free, 5))
}

// P15.2: the list hangs on no state.
func TestListOfAnyState(t *testing.T) {
	b := New()
	for state := word.Free; state <= word.Removed; state++ {
		enters(t, "any", b, uint64(4-state), state, 5, api.OK)
		tells(t, "any", b.Publish(uint64(4-state)), api.OK)
	}
	lists(t, "any", b, 4, 3, 2, 1)
	swaps(t, "removed", b, 3, 1, word.Removed, 9, 7, true)
	lists(t, "removed", b, 4, 3, 2, 1)
	tells(t, "removed", b.Unlist(3), api.OK)
	lists(t, "removed", b, 4, 2, 1)
	tells(t, "removed", b.Publish(3), api.OK)
	lists(t, "removed", b, 4, 2, 1, 3)
}

// P15.2: a list that was taken stays as it was.
func TestListStays(t *testing.T) {
	b := of(t, 1, 2, 3)
	var taken []snap.Snap
	var want [][]uint64
	for _, do := range []func(uint64) api.Errno{b.Publish, b.Unlist, b.Publish} {
		for id := uint64(3); id > 0; id-- {
			taken, want = append(taken, b.List()), append(want, b.List().All())
			tells(t, "stays", do(id), api.OK)
		}
	}
	for i, s := range taken {
		if !slices.Equal(s.All(), want[i]) {
			t.Errorf("the list %d is %v, it was %v", i, s.All(), want[i])
		}
	}
}

// P15.2: the ids rise, whichever entered first; the states are counted.
func TestIDsAndCount(t *testing.T) {
	b := New()
	ids := []uint64{9, 2, math.MaxUint64, 30, 1, 17, 4, 1 << 40}
	for i, id := range ids {
		enters(t, "ids", b, id, i%4, uint64(i), api.OK)
	}
	want := make([]Entry, len(ids))
	for i, id := range ids {
		want[i] = fresh(id, i%4, uint64(i))
	}
	slices.SortFunc(want, func(x, y Entry) int { return cmp.Compare(x.ID, y.ID) })
	has(t, "ids", b, want...)
	swaps(t, "one", b, 9, 0, word.InUse, 5, 5, true)
	for state, n := range []int{1, 3, 2, 2} {
		if got := b.Count(state); got != n {
			t.Errorf("Count(%d): %d, wanted %d", state, got, n)
		}
	}
}

// P15.2: an answer is new memory.
func TestIDsAreNew(t *testing.T) {
	b := of(t, 1, 2, 3)
	a, c := b.IDs(), b.IDs()
	clear(a[:cap(a)])
	if !slices.Equal(c, []uint64{1, 2, 3}) {
		t.Errorf("the other answer is %v", c)
	}
	has(t, "as it was", b, fresh(1, word.Free, 5), fresh(2, word.Free, 5), fresh(3, word.Free, 5))
}

// P15.1: a clone has the same, and is one of its own.
func TestClone(t *testing.T) {
	b := of(t, 1, 2)
	swaps(t, "1", b, 1, 0, word.InUse, 6, 5, true)
	swaps(t, "1", b, 1, 5, word.Free, 7, 8, true)
	tells(t, "1", b.Proved(1, 8), api.OK)
	tells(t, "2", b.Publish(2), api.OK)
	was := []Entry{{1, 8, 5, 7, 8}, fresh(2, word.Free, 5)}
	c := b.Clone()
	if c == b {
		t.Fatal("the clone is the bag")
	}
	has(t, "a clone", c, was...)
	lists(t, "a clone", c, 2)

	swaps(t, "the clone", c, 1, 8, word.Reserved, 9, 14, true)
	swaps(t, "the clone", c, 1, 14, word.Free, 9, 16, true)
	tells(t, "the clone", c.Proved(2, 10), api.OK)
	tells(t, "the clone", c.Publish(1), api.OK)
	tells(t, "the clone", c.Unlist(2), api.OK)
	enters(t, "the clone", c, 3, word.InUse, 11, api.OK)
	has(t, "the bag", b, was...)
	lists(t, "the bag", b, 2)
	then := []Entry{{1, 16, 5, 9, 8}, {2, 0, 5, 5, 10}, fresh(3, word.InUse, 11)}
	has(t, "the clone", c, then...)
	lists(t, "the clone", c, 1)

	swaps(t, "the bag", b, 2, 0, word.InUse, 12, 5, true)
	swaps(t, "the bag", b, 1, 8, word.InUse, 12, 13, true)
	tells(t, "the bag", b.Proved(1, 13), api.OK)
	tells(t, "the bag", b.Publish(1), api.OK)
	enters(t, "the bag", b, 4, word.Free, 14, api.OK)
	has(t, "the clone", c, then...)
	lists(t, "the clone", c, 1)
	has(t, "a clone of none", New().Clone())
}

// P15.2: of nil there is nothing, whatever else is wrong.
func TestNil(t *testing.T) {
	var b *Bag
	has(t, "nil", b)
	lists(t, "nil", b)
	lacks(t, "nil", b, api.ErrNil, 0, 1, math.MaxUint64)
	for _, state := range append([]int{0, 1, 2, 3}, noStates...) {
		enters(t, "nil", b, 1, state, 5, api.ErrNil)
		enters(t, "nil", b, 0, state, 5, api.ErrNil)
	}
	if b.Clone() != nil {
		t.Error("its clone isn't nil")
	}
	if b.List().Len() != 0 {
		t.Error("it has a list")
	}
}

// P15.3: of all that swap with one old word just one does, and its tick is the
// one since when it is free.
func TestOneSwaps(t *testing.T) {
	const threads = 8
	for round := range 300 {
		b := New()
		enters(t, "one", b, 1, word.InUse, 1000, api.OK)
		var done [threads]bool
		begin := make(chan struct{})
		var all sync.WaitGroup
		for i := range threads {
			all.Go(func() {
				<-begin
				got, ok := b.Swap(1, 1, word.Free, uint64(i))
				done[i] = ok
				if got != 4 {
					t.Errorf("round %d: %d was told %d", round, i, got)
				}
			})
		}
		close(begin)
		all.Wait()
		winner := slices.Index(done[:], true)
		if winner < 0 || slices.Contains(done[winner+1:], true) {
			t.Fatalf("round %d: done are %v", round, done)
		}
		has(t, "the one's tick", b, Entry{1, 4, 1000, uint64(winner), 1000})
	}
}

// P15.3: one behind the other just one does, too, whatever the next one asks.
func TestOneSwapsInTurn(t *testing.T) {
	for from := word.Free; from <= word.Removed; from++ {
		for first := word.Free; first <= word.Removed; first++ {
			for second := word.Free; second <= word.Removed; second++ {
				b := New()
				enters(t, "in turn", b, 1, from, 5, api.OK)
				old, _ := b.Load(1)
				_, a := b.Swap(1, old, first, 6)
				_, c := b.Swap(1, old, second, 7)
				if a && c || a != word.May(from, first) || !a && c != word.May(from, second) {
					t.Errorf("from %d to %d: %v, to %d: %v", from, first, a, second, c)
				}
			}
		}
	}
}

// P15.3: what is Removed stays so, with whatever word it is asked.
func TestRemovedStays(t *testing.T) {
	b := New()
	enters(t, "removed", b, 1, word.Reserved, 5, api.OK)
	swaps(t, "removed", b, 1, 2, word.Removed, 6, 7, true)
	for old := word.Word(0); old < 16; old++ {
		for _, state := range append([]int{0, 1, 2, 3}, noStates...) {
			swaps(t, "removed", b, 1, old, state, 7, 7, false)
		}
	}
	tells(t, "removed", b.Unlist(1), api.OK)
	tells(t, "removed", b.Publish(1), api.OK)
	tells(t, "removed", b.Proved(1, 8), api.OK)
	enters(t, "removed", b, 1, word.Free, 9, api.ErrTwice)
	has(t, "removed", b, Entry{1, 7, 5, 5, 8})
}

// plain: a bag as the words tell it.
type plain struct {
	entries []Entry // rising
	list    []uint64
}

// at: the place of an id's entry; false.
func (p *plain) at(id uint64) (int, bool) {
	return slices.BinarySearchFunc(p.entries, id, func(x Entry, id uint64) int {
		return cmp.Compare(x.ID, id)
	})
}

// swap: as Swap.
func (p *plain) swap(id uint64, old word.Word, state int, now uint64) (word.Word, bool) {
	i, known := p.at(id)
	if !known {
		return 0, false
	}
	x := &p.entries[i]
	if x.Word != old || !word.May(old.State(), state) {
		return x.Word, false
	}
	x.Word = word.Of(state, old.Version()+1)
	if state == word.Free {
		x.Since = now
	}
	return x.Word, true
}

// relist: the list behind Publish, or Unlist, of what is known.
func (p *plain) relist(id uint64, listed bool) {
	i := slices.Index(p.list, id)
	if listed && i < 0 {
		p.list = append(p.list, id)
	}
	if !listed && i >= 0 {
		p.list = slices.Delete(p.list, i, i+1)
	}
}

// P15.1 to P15.3: whatever is asked, it is as the words tell.
func TestWhateverIsAsked(t *testing.T) {
	r := rand.New(rand.NewSource(15))
	b, p := New(), &plain{}
	for now := range uint64(6000) {
		id, state := 1+uint64(r.Intn(14)), r.Intn(5)
		i, known := p.at(id)
		want := api.ErrUnknown
		if known {
			want = api.OK
		}
		switch r.Intn(6) {
		case 0:
			want = api.OK
			if state == 4 {
				want = api.ErrRange
			} else if known {
				want = api.ErrTwice
			} else if r.Intn(4) > 0 {
				continue // they enter by and by
			} else {
				p.entries = slices.Insert(p.entries, i, fresh(id, state, now))
			}
			enters(t, "any", b, id, state, now, want)
		case 1:
			tells(t, "Publish", b.Publish(id), want)
			if known {
				p.relist(id, true)
			}
		case 2:
			tells(t, "Unlist", b.Unlist(id), want)
			if known {
				p.relist(id, false)
			}
		case 3:
			tells(t, "Proved", b.Proved(id, now), want)
			if known {
				p.entries[i].Proved = now
			}
		default:
			old, _ := b.Load(id)
			old -= word.Word(r.Intn(5) / 4)
			if state == word.Removed && r.Intn(20) > 0 {
				continue // else all are soon
			}
			held, done := p.swap(id, old, state, now)
			swaps(t, "any", b, id, old, state, now, held, done)
		}
		has(t, "any", b, p.entries...)
		lists(t, "any", b, p.list...)
		if now%500 == 0 {
			b = b.Clone()
		}
		if t.Failed() {
			t.Fatalf("behind the tick %d", now)
		}
	}
}
