package pool

import (
	"fmt"
	"math/rand"
	"testing"

	"hackney/api"
	"hackney/clock"
	"hackney/conf"
	"hackney/hist"
	"hackney/mclose"
	"hackney/mget"
	"hackney/mhouse"
	"hackney/mput"
	"hackney/picks"
	"hackney/word"
	"hackney/world"
)

// model: the same as a pool, by the layers below alone.
type model struct {
	w      *world.World
	gets   map[int]mget.Get
	puts   map[int]mput.Put
	marks  map[int]bool
	closes map[int]mclose.Close
	houses map[int]mhouse.House
	ids    map[int]uint64 // of who puts or marks
}

// modelOf: a new one.
func modelOf(c conf.Conf, opens, proofs []bool) *model {
	w, _ := world.New(c, opens, proofs)
	return &model{
		w, map[int]mget.Get{}, map[int]mput.Put{}, map[int]bool{},
		map[int]mclose.Close{}, map[int]mhouse.House{}, map[int]uint64{},
	}
}

// call: one begins.
func (m *model) call(thread, op int, id, timeout uint64) {
	told := uint64(0)
	switch op {
	case hist.Get:
		m.gets[thread] = mget.Begin(thread, clock.Add(m.w.Now(), timeout))
	case hist.Put:
		m.puts[thread], told = mput.Begin(thread, id), id
	case hist.Evict:
		m.marks[thread], told = true, id
	case hist.Close:
		m.closes[thread] = mclose.Begin(thread)
	case hist.House:
		m.houses[thread] = mhouse.Begin(thread)
	}
	m.ids[thread] = told
	m.w.History.Add(thread, hist.Call, op, told, api.OK)
}

// stepOf: a step of one of these, if the thread has one: which that was, and
// whether it is done, and so gone.
func stepOf[T interface {
	Step(*world.World) T
	Done() bool
}](w *world.World, all map[int]T, thread int) (call T, had, done bool) {
	call, had = all[thread]
	if !had {
		return call, false, false
	}
	w.History.Advance()
	call = call.Step(w)
	all[thread] = call
	if call.Done() {
		delete(all, thread)
	}
	return call, true, call.Done()
}

// step: of the thread's call; was there one?
func (m *model) step(thread int) bool {
	answer := func(done bool, op int, id uint64, e api.Errno) bool {
		if done {
			m.w.History.Add(thread, hist.Answer, op, id, e)
		}
		return true
	}
	if g, had, done := stepOf(m.w, m.gets, thread); had {
		id, e := g.Got()
		return answer(done, hist.Get, id, e)
	}
	if p, had, done := stepOf(m.w, m.puts, thread); had {
		return answer(done, hist.Put, m.ids[thread], p.Err())
	}
	if c, had, done := stepOf(m.w, m.closes, thread); had {
		return answer(done, hist.Close, 0, c.Err())
	}
	if _, had, done := stepOf(m.w, m.houses, thread); had {
		return answer(done, hist.House, 0, api.OK)
	}
	if m.marks[thread] {
		delete(m.marks, thread)
		m.w.History.Advance()
		return answer(true, hist.Evict, m.ids[thread], mput.Evict(m.w, thread, m.ids[thread]))
	}
	return false
}

// told: the state of the thread's call, and what it carries.
func (m *model) told(thread int) (string, uint64) {
	if g, ok := m.gets[thread]; ok {
		return g.State(), g.Carries()
	}
	if p, ok := m.puts[thread]; ok {
		return p.State(), p.Carries()
	}
	if c, ok := m.closes[thread]; ok {
		return c.State(), c.Carries()
	}
	if h, ok := m.houses[thread]; ok {
		return h.State(), h.Carries()
	}
	if m.marks[thread] {
		return "mark", 0
	}
	return "idle", 0
}

// some: so many that go well or not.
func some(r *rand.Rand, n int) []bool {
	out := make([]bool, n)
	for i := range out {
		out[i] = r.Intn(3) > 0
	}
	return out
}

// anyConf: some configuration.
func anyConf(r *rand.Rand) conf.Conf {
	most := 1 + r.Intn(5)
	c := conf.Conf{Max: most, MinIdle: r.Intn(most + 1), Variance: float64(r.Intn(3)) / 2}
	for _, ticks := range []*uint64{&c.Idle, &c.Life, &c.Keep, &c.Leak} {
		*ticks = uint64(r.Intn(3) * r.Intn(12))
	}
	return c
}

// anyCall: an op, an id and a timeout, often such that it holds the thing.
func anyCall(r *rand.Rand, held []uint64) (op int, id, timeout uint64) {
	id, timeout = uint64(r.Intn(8)), uint64(r.Intn(6))
	if len(held) > 0 && r.Intn(8) > 0 {
		id = held[r.Intn(len(held))]
	}
	switch k := r.Intn(60); {
	case k == 0:
		return hist.Close, id, timeout
	case k < 10:
		return hist.House, id, timeout
	case k < 15:
		return hist.Evict, id, timeout
	case k < 35:
		return hist.Put, id, timeout
	}
	return hist.Get, id, timeout
}

// P22.2, P22.3: whoever's turn it is, a pool does what the layers below do by
// themselves, and records just what it should.
func TestAsTheLayersBelow(t *testing.T) {
	r := rand.New(rand.NewSource(22))
	for range 150 {
		c, opens, proofs, threads := anyConf(r), some(r, 8), some(r, 8), 1+r.Intn(5)
		p, m := scripted(t, c, threads, opens, proofs), modelOf(c, opens, proofs)
		for range 150 {
			thread := r.Intn(threads)
			if op, id, timeout := anyCall(r, m.w.Book.Held(thread)); r.Intn(3) == 0 && p.State(thread) == "idle" {
				calls(t, p, thread, op, id, timeout)
				m.call(thread, op, id, timeout)
			}
			is(t, "a step", p.Step(thread), m.step(thread))
			if r.Intn(8) == 0 {
				p.Tick(1)
				m.w.Tick(1)
			}
			for thread := range threads {
				state, carries := m.told(thread)
				is(t, "state", p.State(thread), state)
				is(t, "carries", p.Carries(thread), carries)
			}
		}
		is(t, "its world", tellWorld(p.World()), tellWorld(m.w))
	}
}

// pending: a call on its way, as a history tells it.
type pending struct {
	event, point hist.Event
	pointed      bool
}

// witness: who looks at a pool behind each step, and holds what it does to what
// the leases may come to.
type witness struct {
	t       *testing.T
	p       *Pool
	seen    int // events
	step    uint64
	onWay   map[int]*pending
	holders map[uint64]int
	retired map[uint64]bool
	closed  bool
	results map[int]hist.Event // by threads, the last Answer
}

// witnessOf: of a new pool.
func witnessOf(t *testing.T, p *Pool) *witness {
	return &witness{
		t: t, p: p, onWay: map[int]*pending{}, holders: map[uint64]int{},
		retired: map[uint64]bool{}, results: map[int]hist.Event{},
	}
}

// looks: at what is new.
func (x *witness) looks() {
	x.t.Helper()
	w := x.p.World()
	all := w.History.All()
	for _, e := range all[x.seen:] {
		if !x.may(e) {
			x.t.Fatalf("it may not be: %v, at the end of %v", e, all)
		}
	}
	x.seen = len(all)
	x.leases(w)
	x.places(w)
	x.threads()
}

// may: may the event follow? It has, then.
func (x *witness) may(e hist.Event) bool {
	c := x.onWay[e.Thread]
	if e.Step < x.step || e.Kind != hist.Retire && e.Kind != hist.Call && (c == nil || c.event.Op != e.Op) {
		return false
	}
	x.step = e.Step
	switch e.Kind {
	case hist.Call:
		x.onWay[e.Thread] = &pending{event: e}
		return c == nil && e.Err == api.OK
	case hist.Point:
		was := c.pointed
		c.point, c.pointed = e, true
		named := e.Op != hist.Put && e.Op != hist.Evict || c.event.ID == e.ID
		return !was && named && x.follows(e)
	case hist.Answer:
		delete(x.onWay, e.Thread)
		x.results[e.Thread] = e
		return c.pointed && c.point.ID == e.ID && c.point.Err == e.Err && c.event.Step < e.Step
	}
	_, leased := x.holders[e.ID]
	was := x.retired[e.ID]
	x.retired[e.ID] = true
	return e.ID != 0 && !leased && !was && c != nil && c.event.Op == e.Op
}

// follows: may the leases come to what a point tells?
func (x *witness) follows(e hist.Event) bool {
	holder, leased := x.holders[e.ID]
	holds := leased && holder == e.Thread
	switch e.Op {
	case hist.Get:
		return x.got(e, leased)
	case hist.Put:
		if e.Err == api.OK {
			delete(x.holders, e.ID)
			return holds
		}
		return e.Err == api.ErrNotHeld && !holds
	case hist.Evict:
		return e.Err == api.OK && holds || e.Err == api.ErrNotHeld && !holds
	case hist.Close:
		was := x.closed
		x.closed = true
		return e.ID == 0 && (e.Err == api.OK && !was || e.Err == api.ErrClosed && was)
	}
	return e.ID == 0 && e.Err == api.OK
}

// got: may a getting come to that?
func (x *witness) got(e hist.Event, leased bool) bool {
	switch e.Err {
	case api.OK:
		x.holders[e.ID] = e.Thread
		return e.ID != 0 && !leased && !x.retired[e.ID]
	case api.ErrClosed:
		return e.ID == 0 && x.closed
	}
	return e.ID == 0 && (e.Err == api.ErrTimeout || e.Err == api.ErrOpen)
}

// leases: what was got, and not put yet, is leased, and nothing else is.
func (x *witness) leases(w *world.World) {
	x.t.Helper()
	is(x.t, "leases", w.Book.Len(), len(x.holders))
	for id, thread := range x.holders {
		holder, leased := w.Book.Holder(id)
		is(x.t, "leased", leased, true)
		is(x.t, "to", holder, thread)
	}
}

// places: each id is in just one, and no more are open than may be.
func (x *witness) places(w *world.World) {
	x.t.Helper()
	is(x.t, "no more than Max", len(w.Factory.IDs()) <= w.Conf.Max && w.Live <= w.Conf.Max, true)
	for id := uint64(1); id <= w.Factory.Opened(); id++ {
		is(x.t, "retired", x.retired[id], !w.Factory.IsOpen(id))
		had, _ := w.Bag.Load(id)
		_, leased := x.holders[id]
		ways := []bool{had.State() == word.Free, leased, x.retired[id]}
		for _, s := range w.Slots.All() {
			ways = append(ways, s.ID == id)
		}
		for thread := range x.p.Threads() {
			ways = append(ways, x.p.Carries(thread) == id)
		}
		n := 0
		for _, holds := range ways {
			if holds {
				n++
			}
		}
		if n != 1 {
			x.t.Fatalf("%d is in %d places: %s", id, n, tell(x.p))
		}
	}
}

// threads: each one tells what the history does.
func (x *witness) threads() {
	x.t.Helper()
	var want []int
	for thread := range x.p.Threads() {
		_, busy := x.onWay[thread]
		is(x.t, "idle", x.p.State(thread) == "idle", !busy)
		if busy {
			want = append(want, thread)
		}
		answer, was := x.results[thread]
		told(x.t, x.p, thread, answer.ID, answer.Err, was)
	}
	are(x.t, "pending", x.p.Pending(), want...)
}

// P22.4: whatever is called, and whoever's turn it is: each answer stands
// behind its call, with one point of it between; what a thread got it holds
// till it puts it; and once all is closed and given back, nothing is left.
func TestWhoeversTurn(t *testing.T) {
	r := rand.New(rand.NewSource(23))
	for range 250 {
		p := scripted(t, anyConf(r), 1+r.Intn(6), some(r, 8), some(r, 40))
		x := witnessOf(t, p)
		for range 120 {
			thread := r.Intn(p.Threads())
			op, id, timeout := anyCall(r, p.World().Book.Held(thread))
			if r.Intn(2) == 0 {
				p.Call(thread, op, id, timeout)
			}
			p.Run(picks.New(r.Int(), r.Int()), 1+r.Intn(2))
			if r.Intn(8) == 0 {
				p.Tick(1)
			}
			x.looks()
		}
		allOver(t, p)
		x.looks()
		w := p.World()
		is(t, "what is left", fmt.Sprint(w.Factory.IDs(), w.Book.Len(), w.Slots.All(), w.Bag.List().All(), w.Live, w.Closed),
			"[] 0 [] [] 0 true")
	}
}

// allOver: no thread calls any more, all is given back, and closed.
func allOver(t *testing.T, p *Pool) {
	t.Helper()
	p.Tick(9)
	p.Run(picks.New(), 2000)
	are(t, "on their way", p.Pending())
	does(t, p, 0, hist.Close, 0, 0)
	for thread := range p.Threads() {
		for _, id := range p.World().Book.Held(thread) {
			does(t, p, thread, hist.Put, id, 0)
		}
	}
}
