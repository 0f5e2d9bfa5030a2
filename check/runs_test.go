package check

import (
	"fmt"
	"math/rand"
	"slices"
	"testing"

	"hackney/api"
	"hackney/auto"
	"hackney/conf"
	"hackney/hist"
	"hackney/picks"
	"hackney/pool"
)

// A history is held here against what the document says of each of its events,
// read off from the events ahead of it, all of which are in order.

// way: the call that is on the thread's way behind these, and its point; nil,
// where there is none.
func way(ahead []hist.Event, thread int) (call, point *hist.Event) {
	for i := len(ahead) - 1; i >= 0; i-- {
		x := &ahead[i]
		switch {
		case x.Thread != thread:
		case x.Kind == hist.Answer:
			return nil, nil
		case x.Kind == hist.Point:
			point = x
		case x.Kind == hist.Call:
			return x, point
		}
	}
	return nil, nil
}

// holds: to whom the id is leased behind these.
func holds(ahead []hist.Event, id uint64) (int, bool) {
	for i := len(ahead) - 1; i >= 0; i-- {
		if x := ahead[i]; x.Kind == hist.Point && x.ID == id && x.Err == api.OK && (x.Op == hist.Get || x.Op == hist.Put) {
			return x.Thread, x.Op == hist.Get
		}
	}
	return 0, false
}

// was: was there such an event?
func was(ahead []hist.Event, such func(hist.Event) bool) bool {
	return slices.ContainsFunc(ahead, such)
}

// loose: is the id neither 0, nor leased, nor retired behind these?
func loose(ahead []hist.Event, id uint64) bool {
	_, leased := holds(ahead, id)
	return id != 0 && !leased && !was(ahead, func(x hist.Event) bool { return x.Kind == hist.Retire && x.ID == id })
}

// mayPoint: may the point follow behind these?
func mayPoint(ahead []hist.Event, x hist.Event) bool {
	holder, leased := holds(ahead, x.ID)
	held := leased && holder == x.Thread
	closed := was(ahead, func(x hist.Event) bool { return x.Kind == hist.Point && x.Op == hist.Close && x.Err == api.OK })
	switch fmt.Sprint(x.Op, " ", int(x.Err)) {
	case "0 0":
		return loose(ahead, x.ID)
	case "0 6", "3 6":
		return closed && x.ID == 0
	case "0 7", "0 8", "4 0":
		return x.ID == 0
	case "1 0", "2 0":
		return held
	case "1 5", "2 5":
		return !held
	case "3 0":
		return !closed && x.ID == 0
	}
	return false
}

// wrong: what is wrong with an event behind these.
func wrong(ahead []hist.Event, x hist.Event) api.Errno {
	if x.Kind < 0 || x.Kind > 3 || x.Op < 0 || x.Op > 4 || len(ahead) > 0 && x.Step < ahead[len(ahead)-1].Step {
		return api.ErrRange
	}
	call, point := way(ahead, x.Thread)
	its := call != nil && call.Op == x.Op
	switch {
	case x.Kind == hist.Call && call != nil:
		return api.ErrBusy
	case x.Kind == hist.Point && (!its || point != nil), x.Kind == hist.Answer && (!its || point == nil):
		return api.ErrNone
	case x.Kind == hist.Point && (x.Op == 1 || x.Op == 2) && call.ID != x.ID:
		return api.ErrOrder
	case x.Kind == hist.Point && !mayPoint(ahead, x), x.Kind == hist.Retire && !loose(ahead, x.ID):
		return api.ErrOrder
	case x.Kind == hist.Answer && (point.ID != x.ID || point.Err != x.Err):
		return api.ErrOrder
	}
	return api.OK
}

// firstWrong: what Check should tell.
func firstWrong(l []hist.Event) (int, api.Errno) {
	for i, x := range l {
		if e := wrong(l[:i], x); e != api.OK {
			return i, e
		}
	}
	return len(l), api.OK
}

// asItSays: all four calls tell of it what the document says.
func asItSays(t *testing.T, l []hist.Event) {
	t.Helper()
	n, e := firstWrong(l)
	checks(t, "any", l, n, e)
	good := l[:n]
	var points []hist.Event
	threads := map[int]bool{}
	ids := map[uint64]bool{0: true}
	for _, x := range good {
		if x.Kind == hist.Point || x.Kind == hist.Retire {
			points = append(points, x)
		}
		threads[x.Thread], ids[x.ID] = true, true
	}
	ordered(t, "any", l, points...)
	var busy []int
	for thread := range threads {
		if call, _ := way(good, thread); call != nil {
			busy = append(busy, thread)
		}
	}
	slices.Sort(busy)
	pending(t, "any", l, busy...)
	state(t, End(l...), good, ids)
}

// state: what is behind these, of those ids.
func state(t *testing.T, s auto.State, good []hist.Event, ids map[uint64]bool) {
	t.Helper()
	leases := 0
	for id := range ids {
		want, leased := holds(good, id)
		if !leased {
			want = 0
		}
		if thread, ok := s.Holder(id); thread != want || ok != leased {
			t.Errorf("the holder of %d: %d, %v, wanted %d, %v, of %v", id, thread, ok, want, leased, good)
		}
		if leased {
			leases++
		}
		if got := s.Retired(id); got != (id != 0 && !leased && !loose(good, id)) {
			t.Errorf("Retired(%d): %v, of %v", id, got, good)
		}
	}
	if s.Leases() != leases {
		t.Errorf("%d leases, wanted %d, of %v", s.Leases(), leases, good)
	}
	closed := was(good, func(x hist.Event) bool { return x.Kind == hist.Point && x.Op == hist.Close && x.Err == api.OK })
	if s.Closed() != closed {
		t.Errorf("closed: %v, of %v", s.Closed(), good)
	}
}

// linear: the points are a run of the states, one behind the other, and each
// answer has one that tells the same, between its call and itself.
func linear(t *testing.T, l []hist.Event) {
	t.Helper()
	var s auto.State
	e := api.OK
	for _, x := range Order(l...) {
		if x.Kind == hist.Retire {
			s, e = s.Retire(x.ID)
		} else {
			s, e = s.Point(x.Thread, x.Op, x.ID, x.Err)
		}
		if e != api.OK {
			t.Fatalf("no run: %v in %v", x, l)
		}
	}
	for i, x := range l {
		if x.Kind != hist.Answer {
			continue
		}
		points, j := 0, i-1
		for ; l[j].Thread != x.Thread || l[j].Kind != hist.Call; j-- {
			if y := l[j]; y.Thread == x.Thread && y.Kind == hist.Point {
				points++
				if y.Op != x.Op || y.ID != x.ID || y.Err != x.Err {
					t.Fatalf("%v answers otherwise than %v in %v", x, y, l)
				}
			}
		}
		if points != 1 || l[j].Op != x.Op {
			t.Fatalf("%d points, and a call %v, of %v in %v", points, l[j], x, l)
		}
	}
}

// anyEvent: one that is often in order behind these.
func anyEvent(r *rand.Rand, ahead []hist.Event) hist.Event {
	x := hist.Event{Thread: r.Intn(3), Op: r.Intn(5), ID: uint64(r.Intn(4))}
	if len(ahead) > 0 {
		x.Step = ahead[len(ahead)-1].Step + uint64(r.Intn(2))
	}
	call, point := way(ahead, x.Thread)
	switch {
	case r.Intn(8) == 0:
		x.Kind = hist.Retire
	case call == nil:
		x.Kind = hist.Call
	case point == nil:
		x.Kind, x.Op = hist.Point, call.Op
		if x.Op == hist.Put || x.Op == hist.Evict {
			x.ID = call.ID
		}
		x.Err = []api.Errno{0, 0, 5, 6, 7, 8}[r.Intn(6)]
	default:
		x.Kind, x.Op, x.ID, x.Err = hist.Answer, call.Op, point.ID, point.Err
	}
	return x
}

// spoilt: an event with something else in it.
func spoilt(r *rand.Rand, x hist.Event) hist.Event {
	switch r.Intn(6) {
	case 0:
		x.Step -= min(x.Step, uint64(r.Intn(3)))
	case 1:
		x.Thread = r.Intn(4)
	case 2:
		x.Kind = r.Intn(6) - 1
	case 3:
		x.Op = r.Intn(7) - 1
	case 4:
		x.ID = uint64(r.Intn(4))
	case 5:
		x.Err = api.Errno(r.Intn(10))
	}
	return x
}

// P24.1, P24.2: whatever a history is made of, all that is told of it is what
// the document says; where it is in order, it is linear, and so is each
// beginning.
func TestAnyHistory(t *testing.T) {
	r := rand.New(rand.NewSource(24))
	for range 1500 {
		var l []hist.Event
		for range 40 {
			x := anyEvent(r, l)
			if wrong(l, x) == api.OK || r.Intn(60) == 0 {
				l = append(l, x)
			}
		}
		asItSays(t, l)
		n, _ := Check(l...)
		linear(t, l[:n])
		for k := range n + 1 {
			fine(t, "a beginning", l[:k])
		}
		i := r.Intn(len(l))
		other := slices.Clone(l)
		other[i] = spoilt(r, other[i])
		asItSays(t, other)
		asItSays(t, slices.Delete(slices.Clone(l), i, i+1))
		asItSays(t, slices.Insert(slices.Clone(l), i, l[r.Intn(len(l))]))
	}
}

// played: a pool in which something was called, whoever's turn it was.
func played(t *testing.T, r *rand.Rand) *pool.Pool {
	t.Helper()
	most := 1 + r.Intn(4)
	c := conf.Conf{Max: most, MinIdle: r.Intn(most + 1), Idle: uint64(r.Intn(8)), Life: uint64(r.Intn(20)), Keep: uint64(r.Intn(6)), Leak: uint64(r.Intn(6))}
	well := func() []bool { return []bool{r.Intn(2) > 0, true, r.Intn(2) > 0, r.Intn(2) > 0} }
	p, e := pool.New(c, 1+r.Intn(4), well(), well())
	if e != api.OK {
		t.Fatalf("New: %d", e)
	}
	for range 60 {
		thread := r.Intn(p.Threads())
		op, id := []int{0, 0, 0, 1, 1, 2, 4}[r.Intn(7)], uint64(r.Intn(5))
		if held := p.World().Book.Held(thread); len(held) > 0 && r.Intn(5) > 0 {
			id = held[r.Intn(len(held))]
		}
		if r.Intn(60) == 0 {
			op = hist.Close
		}
		p.Call(thread, op, id, uint64(r.Intn(4)))
		p.Run(picks.New(r.Int(), r.Int(), r.Int()), r.Intn(6))
		if r.Intn(6) == 0 {
			p.Tick(1)
		}
	}
	return p
}

// P2, P24.1, P24.2: whatever a pool's threads call, and whoever's turn it is,
// what came of it is in order; behind it the leases are those of the book, and
// who has something on its way is who calls still.
func TestOfAPool(t *testing.T) {
	r := rand.New(rand.NewSource(2))
	for range 200 {
		p := played(t, r)
		w := p.World()
		l := w.History.All()
		fine(t, "of a pool", l)
		linear(t, l)
		asItSays(t, l)
		pending(t, "of a pool", l, p.Pending()...)
		s := End(l...)
		for id := uint64(1); id <= w.Factory.Opened(); id++ {
			thread, ok := s.Holder(id)
			holder, held := w.Book.Holder(id)
			if thread != holder || ok != held || s.Retired(id) == w.Factory.IsOpen(id) {
				t.Errorf("%d is leased to %d, %v, by the book to %d, %v; retired %v, open %v",
					id, thread, ok, holder, held, s.Retired(id), w.Factory.IsOpen(id))
			}
		}
		if s.Leases() != w.Book.Len() || s.Closed() != w.Closed {
			t.Errorf("%d leases, closed %v, wanted %d, %v", s.Leases(), s.Closed(), w.Book.Len(), w.Closed)
		}
		i := r.Intn(len(l))
		l[i] = spoilt(r, l[i])
		asItSays(t, l)
	}
}
