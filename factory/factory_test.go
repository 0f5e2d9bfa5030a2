package factory

import (
	"math"
	"math/rand"
	"slices"
	"testing"

	"hackney/api"
)

// opens: it opens this id; 0 is nothing.
func opens(t *testing.T, what string, f *Factory, want uint64) {
	t.Helper()
	if got, ok := f.Open(); got != want || ok != (want != 0) {
		t.Errorf("%s: Open: %d, %v, wanted %d, %v", what, got, ok, want, want != 0)
	}
}

// proves: so a proof goes, or that is wrong.
func proves(t *testing.T, what string, f *Factory, id uint64, want bool, wrong api.Errno) {
	t.Helper()
	if got, e := f.Prove(id); got != want || e != wrong {
		t.Errorf("%s: Prove(%d): %v, %d, wanted %v, %d", what, id, got, e, want, wrong)
	}
}

// closes: it is closed, or that is wrong.
func closes(t *testing.T, what string, f *Factory, id uint64, want api.Errno) {
	t.Helper()
	if got := f.Close(id); got != want {
		t.Errorf("%s: Close(%d): %d, wanted %d", what, id, got, want)
	}
}

// has: it opened so many, of which these are open, by whatever it is asked
// that leaves it.
func has(t *testing.T, what string, f *Factory, opened uint64, want ...uint64) {
	t.Helper()
	if got := f.Opened(); got != opened {
		t.Errorf("%s: Opened %d, wanted %d", what, got, opened)
	}
	if got := f.Closed(); got != opened-uint64(len(want)) {
		t.Errorf("%s: Closed %d, wanted %d", what, got, opened-uint64(len(want)))
	}
	if got := f.IDs(); !slices.Equal(got, want) {
		t.Errorf("%s: IDs %v, wanted %v", what, got, want)
	}
	for id := uint64(0); id <= opened+2; id++ {
		if got := f.IsOpen(id); got != slices.Contains(want, id) {
			t.Errorf("%s: IsOpen(%d): %v", what, id, got)
		}
	}
}

// of: a factory without scripts that opened so many.
func of(n int) *Factory {
	f := New(nil, nil)
	for range n {
		f.Open()
	}
	return f
}

// strange: ids that a factory of a few never opened.
func strange(opened uint64) []uint64 {
	return []uint64{0, opened + 1, opened + 2, 1 << 32, 1 << 60, 1 << 63, math.MaxUint64}
}

// P10.1: at first nothing was opened, whatever the scripts are.
func TestNew(t *testing.T) {
	for _, l := range [][]bool{nil, {}, {true}, {false}, {true, true, false}} {
		f := New(l, l)
		has(t, "new", f, 0)
		for _, id := range strange(0) {
			proves(t, "new", f, id, false, api.ErrUnknown)
			closes(t, "new", f, id, api.ErrUnknown)
		}
	}
}

// P10.1: the script of opens, one a time; and behind it all goes well.
func TestOpen(t *testing.T) {
	f := New([]bool{false}, nil)
	opens(t, "the example", f, 0)
	opens(t, "the example", f, 1)

	f = New([]bool{true, false, false, true, false, true}, []bool{false, false})
	for _, want := range []uint64{1, 0, 0, 2, 0, 3, 4, 5, 6} {
		opens(t, "a script", f, want)
	}
	has(t, "a script", f, 6, 1, 2, 3, 4, 5, 6)

	for _, l := range [][]bool{nil, {}} {
		f = New(l, []bool{false, false, false})
		for want := uint64(1); want <= 20; want++ {
			opens(t, "no script", f, want)
		}
	}
	f = New([]bool{false, false, false}, nil)
	for range 3 {
		opens(t, "nothing goes well", f, 0)
		has(t, "nothing goes well", f, 0)
	}
	opens(t, "behind it", f, 1)
}

// P10.1: what isn't opened has no id.
func TestOpenThatFails(t *testing.T) {
	f := New([]bool{true, false}, nil)
	opens(t, "the first", f, 1)
	opens(t, "the second", f, 0)
	has(t, "the second", f, 1, 1)
	proves(t, "none", f, 2, false, api.ErrUnknown)
	closes(t, "none", f, 2, api.ErrUnknown)
	opens(t, "the third", f, 2)
	proves(t, "the third", f, 2, true, api.OK)
}

// P10.1: the script of proofs, one a time, of whichever id; then all goes well.
func TestProve(t *testing.T) {
	f := New([]bool{true, true, false}, []bool{false, true, false, false})
	opens(t, "1", f, 1)
	opens(t, "2", f, 2)
	proves(t, "the first", f, 2, false, api.OK)
	proves(t, "the second", f, 2, true, api.OK)
	proves(t, "the third", f, 1, false, api.OK)
	opens(t, "amid it", f, 0)
	proves(t, "the fourth", f, 1, false, api.OK)
	for range 5 {
		proves(t, "behind it", f, 1, true, api.OK)
		proves(t, "behind it", f, 2, true, api.OK)
	}
	has(t, "what is proved stays", f, 2, 1, 2)
	for _, l := range [][]bool{nil, {}} {
		g := New(nil, l)
		g.Open()
		proves(t, "no script", g, 1, true, api.OK)
	}
}

// P10.1: a proof that can't be takes nothing of the script.
func TestProveOfNone(t *testing.T) {
	f := New(nil, []bool{false, true, false})
	opens(t, "1", f, 1)
	opens(t, "2", f, 2)
	closes(t, "1", f, 1, api.OK)
	none := func(what string) {
		t.Helper()
		for _, id := range strange(2) {
			proves(t, what, f, id, false, api.ErrUnknown)
		}
		proves(t, what, f, 1, false, api.ErrClosed)
	}
	for _, want := range []bool{false, true, false, true, true} {
		none("none")
		proves(t, "one", f, 2, want, api.OK)
	}
	none("behind it")
	has(t, "it stays as it was", f, 2, 2)
}

// P10.1: closed once; of a closed one, and of one that never was, that is told.
func TestClose(t *testing.T) {
	f := of(4)
	has(t, "four", f, 4, 1, 2, 3, 4)
	closes(t, "3", f, 3, api.OK)
	has(t, "without 3", f, 4, 1, 2, 4)
	closes(t, "1", f, 1, api.OK)
	has(t, "without 1", f, 4, 2, 4)
	for _, id := range strange(4) {
		closes(t, "never opened", f, id, api.ErrUnknown)
	}
	closes(t, "3", f, 3, api.ErrTwice)
	closes(t, "1", f, 1, api.ErrTwice)
	has(t, "nothing more", f, 4, 2, 4)
	opens(t, "an id isn't used again", f, 5)
	has(t, "and 5", f, 5, 2, 4, 5)
	for _, id := range []uint64{5, 4, 2} {
		closes(t, "the rest", f, id, api.OK)
		closes(t, "the rest", f, id, api.ErrTwice)
		proves(t, "the rest", f, id, false, api.ErrClosed)
	}
	has(t, "all over", f, 5)
	opens(t, "and on", f, 6)
	has(t, "and on", f, 6, 6)
}

// P10.1: what was refused as unknown may be opened, and closed, later.
func TestCloseAheadOfOpen(t *testing.T) {
	f := New(nil, nil)
	closes(t, "ahead", f, 1, api.ErrUnknown)
	opens(t, "then", f, 1)
	has(t, "then", f, 1, 1)
	closes(t, "then", f, 1, api.OK)
	has(t, "at last", f, 1)
}

// P10.1: what is done with a clone leaves its original, and the other way.
func TestClone(t *testing.T) {
	f := New([]bool{true, true, false, true}, []bool{true, false})
	opens(t, "f", f, 1)
	opens(t, "f", f, 2)
	closes(t, "f", f, 1, api.OK)
	proves(t, "f", f, 2, true, api.OK)
	c := f.Clone()
	if c == f {
		t.Fatal("a clone is one of its own")
	}
	has(t, "a clone", c, 2, 2)

	opens(t, "the clone", c, 0)
	opens(t, "the clone", c, 3)
	proves(t, "the clone", c, 2, false, api.OK)
	proves(t, "the clone", c, 1, false, api.ErrClosed)
	closes(t, "the clone", c, 2, api.OK)
	has(t, "the clone", c, 3, 3)

	has(t, "f", f, 2, 2)
	closes(t, "f", f, 1, api.ErrTwice)
	closes(t, "f", f, 3, api.ErrUnknown)
	opens(t, "f", f, 0)
	proves(t, "f", f, 2, false, api.OK)
	proves(t, "f", f, 2, true, api.OK)
	opens(t, "f", f, 3)
	opens(t, "f", f, 4)
	closes(t, "f", f, 3, api.OK)
	has(t, "f", f, 4, 2, 4)
	has(t, "the clone", c, 3, 3)
	closes(t, "a clone of none", New(nil, nil).Clone(), 1, api.ErrUnknown)
	opens(t, "a clone of none", New(nil, nil).Clone(), 1)
}

// P10.1: the scripts that are handed in are neither changed nor kept.
func TestNewKeepsNothing(t *testing.T) {
	room := []bool{false, true, true, false}
	f := New(room[:2], room[:2])
	g := New(room[:2], room[:2])
	room[0], room[1] = true, false
	for what, x := range map[string]*Factory{"one": f, "another one": g} {
		for _, want := range []uint64{0, 1, 2, 3} {
			opens(t, what, x, want)
		}
		proves(t, what, x, 1, false, api.OK)
		proves(t, what, x, 1, true, api.OK)
		proves(t, what, x, 1, true, api.OK)
	}
	if !slices.Equal(room, []bool{true, false, true, false}) {
		t.Errorf("the script is %v", room)
	}
}

// P10.2: an answer shares nothing with the factory, or with another answer.
func TestIDsIsNewMemory(t *testing.T) {
	f := of(3)
	a, b := f.IDs(), f.IDs()
	a[0], a[1] = 9, 9
	_ = append(a[:1], 9)
	if !slices.Equal(b, []uint64{1, 2, 3}) {
		t.Errorf("the other answer: %v", b)
	}
	has(t, "the factory", f, 3, 1, 2, 3)
}

// P10.2: which are open doesn't hang on the order in which others are closed.
func TestIDsRise(t *testing.T) {
	r := rand.New(rand.NewSource(1))
	for range 50 {
		f := of(40)
		want := f.IDs()
		for _, i := range r.Perm(40)[:30] {
			id := uint64(i + 1)
			closes(t, "some", f, id, api.OK)
			want = slices.DeleteFunc(want, func(x uint64) bool { return x == id })
		}
		has(t, "some", f, 40, want...)
	}
}

// P10.2: what is told of ids that never were.
func TestIsOpenOfNone(t *testing.T) {
	f := of(2)
	for _, id := range strange(2) {
		if f.IsOpen(id) {
			t.Errorf("IsOpen(%d)", id)
		}
	}
}

// P10.2: what is told of nil.
func TestNil(t *testing.T) {
	var f *Factory
	for range 2 {
		has(t, "nil", f, 0)
		opens(t, "nil", f, 0)
		for _, id := range strange(1) {
			proves(t, "nil", f, id, false, api.ErrNil)
			closes(t, "nil", f, id, api.ErrNil)
			if f.IsOpen(id) {
				t.Errorf("IsOpen(%d)", id)
			}
		}
		proves(t, "nil", f, 1, false, api.ErrNil)
		closes(t, "nil", f, 1, api.ErrNil)
	}
	if f.Clone() != nil {
		t.Error("its clone isn't nil")
	}
}

// some: a script of so many, by chance.
func some(r *rand.Rand, n int) []bool {
	var out []bool
	for range n {
		out = append(out, r.Intn(2) == 0)
	}
	return out
}

// P10.3: whatever is asked, no id is opened, or closed, twice.
func TestNothingTwice(t *testing.T) {
	r := rand.New(rand.NewSource(3))
	for range 60 {
		f := New(some(r, 20), some(r, 20))
		last := uint64(0)
		closed := map[uint64]bool{}
		for range 200 {
			id := uint64(r.Intn(30))
			switch r.Intn(4) {
			case 0:
				if got, ok := f.Open(); ok && got != last+1 {
					t.Fatalf("Open: %d, behind %d", got, last)
				} else if ok {
					last = got
				}
			case 1:
				if f.Close(id) == api.OK {
					if closed[id] || id == 0 || id > last {
						t.Fatalf("Close(%d), of %d that were opened", id, last)
					}
					closed[id] = true
				}
			case 2:
				f.Prove(id)
			case 3:
				f = f.Clone()
			}
		}
		if f.Opened() != last || f.Closed() != uint64(len(closed)) {
			t.Fatalf("Opened %d, Closed %d, wanted %d, %d", f.Opened(), f.Closed(), last, len(closed))
		}
	}
}
