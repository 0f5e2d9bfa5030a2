package cond

import (
	"math/rand"
	"slices"
	"testing"

	"hackney/api"
	"hackney/conf"
	"hackney/hist"
	"hackney/pool"
	"hackney/word"
)

// words: those of all ways, in order.
var words = []string{"free", "leased", "carried", "handed", "closed"}

// anyConf: some configuration.
func anyConf(r *rand.Rand) conf.Conf {
	most := 1 + r.Intn(5)
	c := conf.Conf{Max: most, MinIdle: r.Intn(most + 1), Variance: float64(r.Intn(3)) / 2}
	for _, ticks := range []*uint64{&c.Idle, &c.Life, &c.Keep, &c.Leak} {
		*ticks = uint64(r.Intn(3) * r.Intn(12))
	}
	return c
}

// anyPool: one of a configuration and scripts of any kind.
func anyPool(t *testing.T, r *rand.Rand) *pool.Pool {
	t.Helper()
	well := func() []bool {
		out := make([]bool, 8)
		for i := range out {
			out[i] = r.Intn(3) > 0
		}
		return out
	}
	p, e := pool.New(anyConf(r), 1+r.Intn(5), well(), well())
	if e != api.OK {
		t.Fatal(e)
	}
	return p
}

// anyCall: an op, an id and a timeout, often such that it holds the thing.
func anyCall(r *rand.Rand, held []uint64) (op int, id, timeout uint64) {
	id, timeout = uint64(r.Intn(8)), uint64(r.Intn(6))
	if len(held) > 0 && r.Intn(8) > 0 {
		id = held[r.Intn(len(held))]
	}
	switch k := r.Intn(120); {
	case k == 0:
		return hist.Close, id, timeout
	case k < 20:
		return hist.House, id, timeout
	case k < 30:
		return hist.Evict, id, timeout
	case k < 70:
		return hist.Put, id, timeout
	}
	return hist.Get, id, timeout
}

// by: the ways of an id, by what the layers below tell of it one by one.
func by(p *pool.Pool, id uint64) []string {
	w := p.World()
	holds := make([]bool, len(words))
	x, ok := w.Bag.Entry(id)
	holds[0] = ok && x.Word.State() == word.Free
	holds[4] = id >= 1 && id <= w.Factory.Opened() && !slices.Contains(w.Factory.IDs(), id)
	for thread := range p.Threads() {
		holds[1] = holds[1] || slices.Contains(w.Book.Held(thread), id)
		holds[2] = holds[2] || id != 0 && p.Carries(thread) == id
		s, _ := w.Slots.Of(thread)
		holds[3] = holds[3] || id != 0 && s.ID == id
	}
	var out []string
	for i, yes := range holds {
		if yes {
			out = append(out, words[i])
		}
	}
	return out
}

// looks: what is told of a pool is what holds of it; each id is in just one
// place, and no more than Max are open.
func looks(t *testing.T, p *pool.Pool) {
	t.Helper()
	w, all, sum := p.World(), All(p), 0
	opened := w.Factory.Opened()
	are(t, "lost", Lost(p))
	is(t, "all", len(all), int(opened))
	for id := uint64(0); id <= opened+1; id++ {
		got := Where(p, id)
		are(t, "where", got, by(p, id)...)
		if id >= 1 && id <= opened {
			are(t, "in one place", got, all[id])
		}
	}
	for _, way := range words {
		sum += Count(p, way)
	}
	is(t, "in all", sum, int(opened))
	is(t, "closed", Count(p, "closed"), int(w.Factory.Closed()))
	if n := len(w.Factory.IDs()); n > w.Conf.Max {
		t.Errorf("%d are open of %d", n, w.Conf.Max)
	}
	still := len(p.Pending()) == 0 && w.Closed && len(w.Factory.IDs()) == 0 && len(w.Slots.All()) == 0 &&
		w.Book.Len() == 0 && w.Book.Timers() == 0 && w.Bag.List().Len() == 0 && w.Live == 0
	is(t, "quiet", Quiet(p), still)
}

// finish: all that is on its way is done, all that is held put back, and all
// is closed.
func finish(t *testing.T, p *pool.Pool) {
	t.Helper()
	p.Tick(20) // so that nobody waits any longer
	for range 2 {
		for thread := range p.Threads() {
			until(t, p, thread, "idle")
		}
		for thread := range p.Threads() {
			for _, id := range p.World().Book.Held(thread) {
				does(t, p, thread, hist.Put, id, 0)
			}
		}
	}
	does(t, p, 0, hist.Close, 0, 0)
}

// P25.3, P25.1, P25.2, P3, P6: whoever's turn it is, each id is in just one
// place; and once it is closed, and all is given back, it is quiet.
func TestInJustOnePlace(t *testing.T) {
	r := rand.New(rand.NewSource(25))
	seen := map[string]int{}
	for range 120 {
		p := anyPool(t, r)
		for range 120 {
			thread := r.Intn(p.Threads())
			if r.Intn(3) == 0 && p.State(thread) == "idle" {
				op, id, timeout := anyCall(r, p.World().Book.Held(thread))
				calls(t, p, thread, op, id, timeout)
			}
			p.Step(thread)
			if r.Intn(8) == 0 {
				p.Tick(1)
			}
			looks(t, p)
			for _, way := range words {
				seen[way] += Count(p, way)
			}
		}
		finish(t, p)
		looks(t, p)
		is(t, "all over", Quiet(p), true)
	}
	for _, way := range words {
		if seen[way] == 0 {
			t.Errorf("none was ever %s", way)
		}
	}
}
