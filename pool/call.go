package pool

import (
	"hackney/api"
	"hackney/clock"
	"hackney/hist"
	"hackney/mclose"
	"hackney/mget"
	"hackney/mhouse"
	"hackney/mput"
	"hackney/world"
)

// call is one on its way: a value, of which a step is another one.
type call interface {
	State() string
	Done() bool
	Carries() uint64
	step(w *world.World) call
	result() (uint64, api.Errno)
}

// begin: a call of that op; nil of no such op.
func begin(w *world.World, thread, op int, id, timeout uint64) call {
	switch op {
	case hist.Get:
		return getting{mget.Begin(thread, clock.Add(w.Now(), timeout))}
	case hist.Put:
		return putting{mput.Begin(thread, id), id}
	case hist.Evict:
		return marking{thread: thread, id: id}
	case hist.Close:
		return closing{mclose.Begin(thread)}
	case hist.House:
		return round{mhouse.Begin(thread)}
	}
	return nil
}

// getting is a call of Get.
type getting struct{ mget.Get }

func (g getting) step(w *world.World) call    { return getting{g.Step(w)} }
func (g getting) result() (uint64, api.Errno) { return g.Got() }

// putting is a call of Put; its id is told by its answer.
type putting struct {
	mput.Put
	id uint64
}

func (p putting) step(w *world.World) call    { return putting{p.Step(w), p.id} }
func (p putting) result() (uint64, api.Errno) { return p.id, p.Err() }

// marking is a call of Evict. Below it is no more than a step, so what it is
// ahead of that, and behind it, is told here.
type marking struct {
	thread int
	id     uint64
	err    api.Errno
	done   bool
}

// State: it has just one in which it is on its way.
func (m marking) State() string { return "mark" }

// Done: is it done?
func (m marking) Done() bool { return m.done }

// Carries: nothing: it is held on.
func (m marking) Carries() uint64 { return 0 }

func (m marking) step(w *world.World) call {
	m.err, m.done = mput.Evict(w, m.thread, m.id), true
	return m
}
func (m marking) result() (uint64, api.Errno) { return m.id, m.err }

// closing is a call of Close.
type closing struct{ mclose.Close }

func (c closing) step(w *world.World) call    { return closing{c.Step(w)} }
func (c closing) result() (uint64, api.Errno) { return 0, c.Err() }

// round is a call of House.
type round struct{ mhouse.House }

func (r round) step(w *world.World) call    { return round{r.Step(w)} }
func (r round) result() (uint64, api.Errno) { return 0, api.OK }
