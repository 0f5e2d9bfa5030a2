package auto

import (
	"math"
	"math/rand"
	"testing"

	"hackney/api"
	"hackney/hist"
)

// model: a state, as a test keeps it.
type model struct {
	leases  map[uint64]int
	retired map[uint64]bool
	closed  bool
}

// clone: one of its own.
func (m model) clone() model {
	out := model{map[uint64]int{}, map[uint64]bool{}, m.closed}
	for id, thread := range m.leases {
		out.leases[id] = thread
	}
	for id := range m.retired {
		out.retired[id] = true
	}
	return out
}

// row: a row of the document's table.
type row struct {
	op    int
	err   api.Errno
	where func(m model, thread int, id uint64) bool
	then  func(m *model, thread int, id uint64)
}

// nothing: what most points make of a state.
func nothing(*model, int, uint64) {}

// to: is the id leased to the thread?
func to(m model, thread int, id uint64) bool {
	holder, ok := m.leases[id]
	return ok && holder == thread
}

// free: may the id be leased, or retired?
func free(m model, id uint64) bool {
	_, leased := m.leases[id]
	return id != 0 && !leased && !m.retired[id]
}

// table: the document's.
func table() []row {
	notTo := func(m model, thread int, id uint64) bool { return !to(m, thread, id) }
	none := func(_ model, _ int, id uint64) bool { return id == 0 }
	closed := func(m model, _ int, id uint64) bool { return m.closed && id == 0 }
	return []row{
		{0, 0, func(m model, _ int, id uint64) bool { return free(m, id) }, func(m *model, thread int, id uint64) { m.leases[id] = thread }},
		{0, 6, closed, nothing},
		{0, 7, none, nothing},
		{0, 8, none, nothing},
		{1, 0, to, func(m *model, _ int, id uint64) { delete(m.leases, id) }},
		{1, 5, notTo, nothing},
		{2, 0, to, nothing},
		{2, 5, notTo, nothing},
		{3, 0, func(m model, _ int, id uint64) bool { return !m.closed && id == 0 }, func(m *model, _ int, _ uint64) { m.closed = true }},
		{3, 6, closed, nothing},
		{4, 0, none, nothing},
	}
}

// point: what a state comes to by the table, and whether it may.
func (m model) point(thread, op int, id uint64, e api.Errno) (model, bool) {
	for _, r := range table() {
		if r.op == op && r.err == e && r.where(m, thread, id) {
			out := m.clone()
			r.then(&out, thread, id)
			return out, true
		}
	}
	return m, false
}

// retire: likewise.
func (m model) retire(id uint64) (model, bool) {
	if !free(m, id) {
		return m, false
	}
	out := m.clone()
	out.retired[id] = true
	return out, true
}

// has: it tells just that, of the ids that are and of some that aren't.
func has(t *testing.T, what string, s State, m model) {
	t.Helper()
	ids := []uint64{0, 1, 2, 3, 4, 5, 6, 7, 8, 9, 100, math.MaxUint64 - 1, math.MaxUint64}
	for id := range m.leases {
		ids = append(ids, id)
	}
	for id := range m.retired {
		ids = append(ids, id)
	}
	for _, id := range ids {
		thread, ok := s.Holder(id)
		want, leased := m.leases[id]
		if thread != want || ok != leased {
			t.Errorf("%s: Holder(%d): %d, %v, wanted %d, %v", what, id, thread, ok, want, leased)
		}
		if got := s.Retired(id); got != m.retired[id] {
			t.Errorf("%s: Retired(%d): %v", what, id, got)
		}
		if ok && s.Retired(id) {
			t.Errorf("%s: %d is leased, and retired", what, id)
		}
	}
	if got := s.Leases(); got != len(m.leases) {
		t.Errorf("%s: Leases: %d, wanted %d", what, got, len(m.leases))
	}
	if got := s.Closed(); got != m.closed {
		t.Errorf("%s: Closed: %v", what, got)
	}
}

// points: the point comes to that error.
func points(t *testing.T, what string, s State, thread, op int, id uint64, e, want api.Errno) State {
	t.Helper()
	out, got := s.Point(thread, op, id, e)
	if got != want {
		t.Errorf("%s: Point(%d, %d, %d, %d): %d, wanted %d", what, thread, op, id, e, got, want)
	}
	return out
}

// retires: the retirement comes to that error.
func retires(t *testing.T, what string, s State, id uint64, want api.Errno) State {
	t.Helper()
	out, got := s.Retire(id)
	if got != want {
		t.Errorf("%s: Retire(%d): %d, wanted %d", what, id, got, want)
	}
	return out
}

// empty: the model of the zero State.
func empty() model { return model{} }

// full: 1 and 2 are leased to 0, 3 to 5, 4 and 6 are retired.
func full(t *testing.T) (State, model) {
	t.Helper()
	var s State
	s = points(t, "full", s, 0, hist.Get, 1, api.OK, api.OK)
	s = points(t, "full", s, 0, hist.Get, 2, api.OK, api.OK)
	s = points(t, "full", s, 5, hist.Get, 3, api.OK, api.OK)
	s = retires(t, "full", s, 4, api.OK)
	s = retires(t, "full", s, 6, api.OK)
	return s, model{map[uint64]int{1: 0, 2: 0, 3: 5}, map[uint64]bool{4: true, 6: true}, false}
}

// P23.2: the zero State has nothing, and isn't closed.
func TestZero(t *testing.T) {
	var s State
	has(t, "zero", s, empty())
	has(t, "a literal", State{}, empty())
}

// The document's example, and what it comes to.
func TestExample(t *testing.T) {
	var s State
	a := points(t, "first", s, 0, hist.Get, 1, api.OK, api.OK)
	b := points(t, "second", a, 2, hist.Get, 1, api.OK, api.ErrOrder)
	want := model{leases: map[uint64]int{1: 0}}
	has(t, "first", a, want)
	has(t, "second", b, want)
	has(t, "at first", s, empty())
}

// P23.1, P23.3: an id is got where it is neither 0, nor leased, nor retired;
// also in a state that is closed.
func TestGet(t *testing.T) {
	s, m := full(t)
	for _, id := range []uint64{0, 1, 2, 3, 4, 6} {
		for _, thread := range []int{0, 5, 7} {
			has(t, "refused", points(t, "refused", s, thread, hist.Get, id, api.OK, api.ErrOrder), m)
		}
	}
	got := points(t, "got", s, 5, hist.Get, 7, api.OK, api.OK)
	has(t, "got", got, model{map[uint64]int{1: 0, 2: 0, 3: 5, 7: 5}, m.retired, false})
	closed := points(t, "close", s, 1, hist.Close, 0, api.OK, api.OK)
	got = points(t, "closed", closed, 0, hist.Get, 7, api.OK, api.OK)
	has(t, "closed", got, model{map[uint64]int{1: 0, 2: 0, 3: 5, 7: 0}, m.retired, true})
}

// P23.1: who got nothing names no id; it was told that it is closed only where
// it is.
func TestGetNothing(t *testing.T) {
	s, m := full(t)
	shut := points(t, "close", s, 1, hist.Close, 0, api.OK, api.OK)
	shutModel := model{m.leases, m.retired, true}
	for _, e := range []api.Errno{api.ErrTimeout, api.ErrOpen} {
		has(t, "nothing", points(t, "nothing", s, 2, hist.Get, 0, e, api.OK), m)
		has(t, "nothing", points(t, "nothing", shut, 2, hist.Get, 0, e, api.OK), shutModel)
		has(t, "of an id", points(t, "of an id", s, 2, hist.Get, 7, e, api.ErrOrder), m)
		has(t, "of an id", points(t, "of an id", s, 0, hist.Get, 1, e, api.ErrOrder), m)
	}
	has(t, "open", points(t, "open", s, 2, hist.Get, 0, api.ErrClosed, api.ErrOrder), m)
	has(t, "closed", points(t, "closed", shut, 2, hist.Get, 0, api.ErrClosed, api.OK), shutModel)
	has(t, "of an id", points(t, "of an id", shut, 2, hist.Get, 7, api.ErrClosed, api.ErrOrder), shutModel)
}

// P23.1: who holds an id puts it, and nobody else does; then it may be got, or
// retired.
func TestPut(t *testing.T) {
	s, m := full(t)
	put := points(t, "put", s, 0, hist.Put, 1, api.OK, api.OK)
	has(t, "put", put, model{map[uint64]int{2: 0, 3: 5}, m.retired, false})
	points(t, "put twice", put, 0, hist.Put, 1, api.OK, api.ErrOrder)
	points(t, "not held any more", put, 0, hist.Put, 1, api.ErrNotHeld, api.OK)
	again := points(t, "got again", put, 5, hist.Get, 1, api.OK, api.OK)
	has(t, "got again", again, model{map[uint64]int{1: 5, 2: 0, 3: 5}, m.retired, false})
	gone := retires(t, "retired", put, 1, api.OK)
	points(t, "got behind that", gone, 0, hist.Get, 1, api.OK, api.ErrOrder)
}

// P23.1: of Put and Evict just the one of OK and ErrNotHeld may be, by who
// holds the id; marking changes nothing.
func TestHeldOrNot(t *testing.T) {
	s, m := full(t)
	for _, op := range []int{hist.Put, hist.Evict} {
		for _, id := range []uint64{0, 1, 2, 3, 4, 5, 6, math.MaxUint64} {
			for _, thread := range []int{-1, 0, 5, 7, 8} {
				well, not := api.OK, api.ErrOrder
				if !to(m, thread, id) {
					well, not = not, well
				}
				out := points(t, "held", s, thread, op, id, api.OK, well)
				if op == hist.Evict || well != api.OK {
					has(t, "held", out, m)
				}
				has(t, "not held", points(t, "not held", s, thread, op, id, api.ErrNotHeld, not), m)
			}
		}
	}
}

// P23.1: it is closed once, of no id; each other time that is told.
func TestClose(t *testing.T) {
	s, m := full(t)
	has(t, "not yet", points(t, "not yet", s, 1, hist.Close, 0, api.ErrClosed, api.ErrOrder), m)
	has(t, "of an id", points(t, "of an id", s, 1, hist.Close, 1, api.OK, api.ErrOrder), m)
	shut := points(t, "closed", s, 1, hist.Close, 0, api.OK, api.OK)
	want := model{m.leases, m.retired, true}
	has(t, "closed", shut, want)
	has(t, "twice", points(t, "twice", shut, 2, hist.Close, 0, api.OK, api.ErrOrder), want)
	has(t, "told", points(t, "told", shut, 2, hist.Close, 0, api.ErrClosed, api.OK), want)
	has(t, "told of an id", points(t, "told of an id", shut, 2, hist.Close, 1, api.ErrClosed, api.ErrOrder), want)
}

// P23.1: a round is of no id, and goes well.
func TestHouse(t *testing.T) {
	s, m := full(t)
	has(t, "a round", points(t, "a round", s, 3, hist.House, 0, api.OK, api.OK), m)
	has(t, "of an id", points(t, "of an id", s, 3, hist.House, 7, api.OK, api.ErrOrder), m)
	has(t, "closed", points(t, "closed", s, 3, hist.House, 0, api.ErrClosed, api.ErrOrder), m)
}

// P23.1: what is retired is neither 0, nor leased, nor retired already; also in
// a state that is closed.
func TestRetire(t *testing.T) {
	s, m := full(t)
	for _, id := range []uint64{0, 1, 2, 3, 4, 6} {
		has(t, "refused", retires(t, "refused", s, id, api.ErrOrder), m)
	}
	for _, id := range []uint64{5, 7, math.MaxUint64} {
		out := retires(t, "retired", s, id, api.OK)
		has(t, "retired", out, model{m.leases, map[uint64]bool{4: true, 6: true, id: true}, false})
		retires(t, "twice", out, id, api.ErrOrder)
	}
	shut := points(t, "close", s, 1, hist.Close, 0, api.OK, api.OK)
	out := retires(t, "closed", shut, 5, api.OK)
	has(t, "closed", out, model{m.leases, map[uint64]bool{4: true, 5: true, 6: true}, true})
}

// P23.1: all that the table doesn't name may not be, and of all that it names
// it comes to what that says: each op, each error, ids of each kind.
func TestTable(t *testing.T) {
	s, m := full(t)
	shut := points(t, "close", s, 1, hist.Close, 0, api.OK, api.OK)
	states := []struct {
		s State
		m model
	}{{State{}, empty()}, {s, m}, {shut, model{m.leases, m.retired, true}}}
	errs := []api.Errno{-1, 100, math.MaxInt, math.MinInt}
	for e := api.OK; e <= api.ErrPanic+1; e++ {
		errs = append(errs, e)
	}
	for _, x := range states {
		for _, op := range []int{math.MinInt, -1, 0, 1, 2, 3, 4, 5, 6, math.MaxInt} {
			for _, e := range errs {
				for id := range uint64(8) {
					for _, thread := range []int{0, 3, 5} {
						want, may := x.m.point(thread, op, id, e)
						err := api.ErrOrder
						if may {
							err = api.OK
						}
						has(t, "table", points(t, "table", x.s, thread, op, id, e, err), want)
					}
				}
			}
		}
	}
}

// P23.1: a state tells of any thread and any id.
func TestFarNumbers(t *testing.T) {
	var s State
	for i, thread := range []int{math.MinInt, -1, 8, math.MaxInt} {
		id := math.MaxUint64 - uint64(i)
		got := points(t, "far", s, thread, hist.Get, id, api.OK, api.OK)
		has(t, "far", got, model{leases: map[uint64]int{id: thread}})
		points(t, "another one", got, 0, hist.Put, id, api.OK, api.ErrOrder)
		has(t, "put", points(t, "put", got, thread, hist.Put, id, api.OK, api.OK), empty())
	}
}

// A State is a value: whatever comes of it, it is as it was, however often, and
// what came of it isn't changed by what comes of it otherwise.
func TestValues(t *testing.T) {
	s, m := full(t)
	a := points(t, "a", s, 1, hist.Get, 7, api.OK, api.OK)
	b := points(t, "b", s, 2, hist.Get, 7, api.OK, api.OK)
	c := points(t, "c", s, 0, hist.Put, 1, api.OK, api.OK)
	d := retires(t, "d", s, 7, api.OK)
	e := retires(t, "e", s, 8, api.OK)
	f := points(t, "f", s, 1, hist.Close, 0, api.OK, api.OK)
	g := s
	g = points(t, "g", g, 0, hist.Put, 2, api.OK, api.OK)
	has(t, "s", s, m)
	has(t, "a", a, model{map[uint64]int{1: 0, 2: 0, 3: 5, 7: 1}, m.retired, false})
	has(t, "b", b, model{map[uint64]int{1: 0, 2: 0, 3: 5, 7: 2}, m.retired, false})
	has(t, "c", c, model{map[uint64]int{2: 0, 3: 5}, m.retired, false})
	has(t, "d", d, model{m.leases, map[uint64]bool{4: true, 6: true, 7: true}, false})
	has(t, "e", e, model{m.leases, map[uint64]bool{4: true, 6: true, 8: true}, false})
	has(t, "f", f, model{m.leases, m.retired, true})
	has(t, "g", g, model{map[uint64]int{1: 0, 3: 5}, m.retired, false})
}

// anyNext: some point or retirement, often such as may follow.
func anyNext(r *rand.Rand, s State, m model) (State, model, api.Errno, bool) {
	id := uint64(r.Intn(10))
	if r.Intn(5) == 0 {
		next, e := s.Retire(id)
		want, may := m.retire(id)
		return next, want, e, may
	}
	thread, op, e := r.Intn(4), r.Intn(6)-1, api.OK
	if r.Intn(3) == 0 {
		e = []api.Errno{api.ErrNotHeld, api.ErrClosed, api.ErrTimeout, api.ErrOpen, api.ErrBusy}[r.Intn(5)]
	}
	if r.Intn(3) == 0 {
		id = 0
	}
	if op == hist.Close && r.Intn(10) > 0 { // else it is closed nearly always
		op = hist.Put
	}
	next, got := s.Point(thread, op, id, e)
	want, may := m.point(thread, op, id, e)
	return next, want, got, may
}

// P23.1 to P23.3: whatever follows what, by the table, each of all the states
// that there were is as it was, and no id is leased to two, or leased and
// retired.
func TestAnyRun(t *testing.T) {
	r := rand.New(rand.NewSource(23))
	for range 60 {
		states, models := []State{{}}, []model{empty()}
		for range 60 {
			i := len(states) - 1
			if r.Intn(4) == 0 {
				i = r.Intn(len(states))
			}
			s, m, e, may := anyNext(r, states[i], models[i])
			if may != (e == api.OK) || !may && e != api.ErrOrder {
				t.Fatalf("error %d, where it may follow: %v", e, may)
			}
			states, models = append(states, s), append(models, m)
		}
		for i := range states {
			has(t, "behind all", states[i], models[i])
		}
	}
}

// P23.1: where all leases that there were are gone, it is as at first: what was
// got and put, and more than once, may be got again.
func TestOverAndOver(t *testing.T) {
	var s State
	for range 50 {
		for id := uint64(1); id <= 40; id++ {
			s = points(t, "got", s, int(id%8), hist.Get, id, api.OK, api.OK)
		}
		if s.Leases() != 40 {
			t.Fatalf("%d leases, wanted 40", s.Leases())
		}
		for id := uint64(40); id > 0; id-- {
			s = points(t, "put", s, int(id%8), hist.Put, id, api.OK, api.OK)
		}
		has(t, "all put", s, empty())
	}
}
