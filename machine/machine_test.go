package machine

import (
	"fmt"
	"math"
	"slices"
	"strings"
	"testing"

	"hackney/api"
	"hackney/conf"
	"hackney/hist"
	"hackney/picks"
	"hackney/pool"
	"hackney/script"
)

const seven = "max=4 min=1 idle=100 life=1000 keep=50 leak=200 variance=0.25"

// is: it was wanted so, or a test fails.
func is[T comparable](t *testing.T, what string, got, want T) {
	t.Helper()
	if got != want {
		t.Errorf("%s: %v, wanted %v", what, got, want)
	}
}

// are: just these lines, or a test fails.
func are(t *testing.T, what string, got []string, want ...string) {
	t.Helper()
	if !slices.Equal(got, want) {
		t.Errorf("%s:\n%s\nwanted\n%s", what, strings.Join(got, "\n"), strings.Join(want, "\n"))
	}
}

// of: a new machine.
func of(t *testing.T, s script.Script) *Machine {
	t.Helper()
	m, e := New(s)
	if e != api.OK || m == nil {
		t.Fatalf("New: %v, %d", m, e)
	}
	return m
}

// two: a new machine of two threads and the default.
func two(t *testing.T) *Machine {
	t.Helper()
	return of(t, script.Script{Threads: 2, Conf: conf.Default()})
}

// do: what a line tells.
func do(t *testing.T, m *Machine, line string) []string {
	t.Helper()
	s, _, e := script.Parse("pool 1 " + seven + "\n" + line)
	if e != api.OK || len(s.Commands) != 1 {
		t.Fatalf("%q: %d", line, e)
	}
	return m.Do(s.Commands[0])
}

// does: what lines tell, each one line, or a test fails.
func does(t *testing.T, m *Machine, linesAndTold ...string) {
	t.Helper()
	for i := 0; i < len(linesAndTold); i += 2 {
		are(t, linesAndTold[i], do(t, m, linesAndTold[i]), linesAndTold[i+1])
	}
}

// runs: the lines of a script's commands, or a test fails.
func runs(t *testing.T, text string, want ...string) {
	t.Helper()
	got, line, e := Run(text)
	is(t, "line", line, 0)
	is(t, "error", e, api.OK)
	are(t, "run", got, want...)
}

// refuses: nothing is told but that line and error.
func refuses(t *testing.T, text string, line int, want api.Errno) {
	t.Helper()
	got, at, e := Run(text)
	if len(got) != 0 || at != line || e != want {
		t.Errorf("Run(%.200q): %.200q, %d, %d, wanted none, %d, %d", text, got, at, e, line, want)
	}
}

// text: lines, each ended.
func text(lines ...string) string { return strings.Join(lines, "\n") + "\n" }

// tell: all that a pool tells.
func tell(p *pool.Pool) string {
	w := p.World()
	out := fmt.Sprintln(w.Conf, w.Now(), w.Live, w.Closed, w.Bag.List().All(), w.Slots.All(), p.Threads(), p.Pending())
	out += fmt.Sprintln(w.Factory.IDs(), w.Factory.Opened(), w.Factory.Closed(), w.Book.Flagged(), w.Book.Timers())
	for _, id := range w.Bag.IDs() {
		x, _ := w.Bag.Entry(id)
		since, _ := w.Book.Since(id)
		out += fmt.Sprintln(x, w.Book.Marked(id), since)
	}
	for thread := range p.Threads() {
		id, e, ok := p.Result(thread)
		out += fmt.Sprintln(w.Locals.All(thread), w.Book.Held(thread), p.State(thread), p.Carries(thread), id, e, ok)
	}
	return out + fmt.Sprintln(w.History.Now(), w.History.All())
}

// last: the last event that is recorded.
func last(m *Machine) hist.Event {
	all := m.Pool().World().History.All()
	return all[len(all)-1]
}

// P28.1: a new machine's pool is a new one of what the script says, whose
// commands play no part.
func TestNew(t *testing.T) {
	s := script.Script{
		Threads:  3,
		Conf:     conf.Conf{Max: 2, MinIdle: 1, Idle: 5, Variance: 0.5},
		Opens:    []bool{false, true},
		Proofs:   []bool{true, false},
		Commands: []script.Command{{Op: 0, Thread: 1}, {Op: 99, Thread: 99}},
	}
	m := of(t, s)
	p, _ := pool.New(s.Conf, s.Threads, s.Opens, s.Proofs)
	is(t, "its pool", tell(m.Pool()), tell(p))
	w := m.Pool().World()
	id, ok := w.Factory.Open()
	is(t, "the first opening", fmt.Sprint(id, ok), "0 false")
	w.Factory.Open()
	first, _ := w.Factory.Prove(1)
	second, _ := w.Factory.Prove(1)
	is(t, "the proofs", fmt.Sprint(first, second), "true false")
}

// P28.1: the errors are those of layer 22, in its order.
func TestNewErrors(t *testing.T) {
	nan := conf.Conf{Max: 1, Variance: math.NaN()}
	for _, x := range []struct {
		threads int
		c       conf.Conf
		want    api.Errno
	}{
		{0, conf.Default(), api.ErrRange}, {9, conf.Default(), api.ErrRange}, {-1, conf.Default(), api.ErrRange},
		{api.MaxTick, conf.Default(), api.ErrRange}, {1, conf.Conf{}, api.ErrRange}, {1, nan, api.ErrNaN},
		{0, nan, api.ErrRange}, {9, nan, api.ErrRange}, {8, nan, api.ErrNaN},
	} {
		m, e := New(script.Script{Threads: x.threads, Conf: x.c, Commands: []script.Command{{Op: 50}}})
		if m != nil || e != x.want {
			t.Errorf("New of %d, %v: %v, %d, wanted nil, %d", x.threads, x.c, m, e, x.want)
		}
	}
	of(t, script.Script{Threads: 1, Conf: conf.Default()})
	of(t, script.Script{Threads: 8, Conf: conf.Default()})
	// What a text couldn't say may be played, all the same.
	of(t, script.Script{Threads: 1, Conf: conf.Default(), Opens: make([]bool, 1000), Commands: make([]script.Command, 5000)})
}

// P28.1: the script isn't kept: what is done with it later plays no part.
func TestScriptIsNotKept(t *testing.T) {
	s := script.Script{Threads: 2, Conf: conf.Conf{Max: 2, MinIdle: 2}, Opens: []bool{true, true, true}, Proofs: []bool{true}}
	m, other := of(t, s), of(t, s)
	s.Opens[0], s.Opens[1], s.Proofs[0] = false, false, false
	for _, line := range []string{"get 0 5", "house 1", "run 60"} {
		are(t, line, do(t, m, line), do(t, other, line)...)
	}
	is(t, "opened", m.Pool().World().Factory.Opened(), 2)
	is(t, "the script", fmt.Sprint(s.Opens, s.Proofs), "[false false true] [false]")
}

// P28.1: Pool is a clone: whatever is done with it, the machine is as it was,
// and it is as it was, whatever the machine does.
func TestPoolIsAClone(t *testing.T) {
	m := two(t)
	does(t, m, "get 0 5", "ok", "run 3", "ran 2")
	p := m.Pool()
	was := tell(p)
	q := m.Pool()
	q.Run(picks.New(), 20)
	q.Tick(7)
	q.Call(1, hist.Close, 0, 0)
	is(t, "the machine's", tell(m.Pool()), was)
	does(t, m, "run 20", "ran 4", "tick 3", "ok")
	is(t, "the clone", tell(p), was)
	is(t, "on its own", p.Run(picks.New(), 30), 4)
}

// P28.2: a call is layer 22's of the thread and the op; the number is the
// timeout of get, the id of put and evict, and of the others nothing.
func TestCalls(t *testing.T) {
	for op := range uint8(5) {
		for _, n := range []uint64{0, 1, 5, api.MaxTick, math.MaxUint64} {
			m := two(t)
			does(t, m, "tick 9", "ok")
			p := m.Pool()
			id, timeout := uint64(0), uint64(0)
			switch op {
			case hist.Get:
				timeout = n
			case hist.Put, hist.Evict:
				id = n
			}
			are(t, "call", m.Do(script.Command{Line: 3, Op: op, Thread: 1, N: n, Picks: []int{0}}), "ok")
			p.Call(1, int(op), id, timeout)
			is(t, "the pool", tell(m.Pool()), tell(p))
			are(t, "a second one", m.Do(script.Command{Op: op, Thread: 1, N: n}), "error 12")
			is(t, "its last event", last(m), hist.Event{Thread: 1, Kind: hist.Call, Op: int(op), ID: id})
			m.Do(script.Command{Op: 6, N: 50})
			p.Run(picks.New(), 50)
			is(t, "the pool behind it", tell(m.Pool()), tell(p))
		}
	}
}

// P28.2: what a call is refused with; a refused one changes nothing.
func TestRefusedCalls(t *testing.T) {
	m := two(t)
	does(t, m, "get 1 5", "ok")
	was := tell(m.Pool())
	for op := range uint8(5) {
		for _, thread := range []int{2, 7, 8, -1, math.MaxInt, math.MinInt} {
			are(t, "no such thread", m.Do(script.Command{Op: op, Thread: thread, N: 1}), "error 2")
		}
		are(t, "busy", m.Do(script.Command{Op: op, Thread: 1, N: 1}), "error 12")
	}
	is(t, "the pool", tell(m.Pool()), was)
}

// P28.2: how long a Get waits is its number: it ends at its deadline, and not
// ahead of it.
func TestTimeout(t *testing.T) {
	m := of(t, script.Script{Threads: 2, Conf: conf.Conf{Max: 1}})
	does(t, m, "get 0 0", "ok", "run 12", "ran 6", "tick 3", "ok", "get 1 5", "ok")
	for range 4 {
		do(t, m, "run 40")
		does(t, m, "tick 1", "ok")
	}
	do(t, m, "run 40")
	is(t, "ahead of the deadline", m.Pool().State(1), "wait")
	does(t, m, "tick 1", "ok")
	do(t, m, "run 40")
	is(t, "at the deadline", last(m).Text(), fmt.Sprint(last(m).Step, " 1 answer get 0 7"))
}

// P28.2: step is one of that thread's call.
func TestStep(t *testing.T) {
	m := two(t)
	does(t, m, "step 0", "idle", "step 1", "idle", "step 7", "idle")
	does(t, m, "get 1 5", "ok", "step 0", "idle")
	for range 6 {
		does(t, m, "step 0", "idle", "step 1", "stepped")
	}
	does(t, m, "step 1", "idle")
	is(t, "its last event", last(m).Text(), "6 1 answer get 1 0")
	was := tell(m.Pool())
	for _, thread := range []int{-1, 2, 8, math.MinInt, math.MaxInt} {
		are(t, "no such thread", m.Do(script.Command{Op: 5, Thread: thread, N: 1, Picks: []int{1}}), "idle")
	}
	is(t, "the pool", tell(m.Pool()), was)
}

// P28.2: run is so many steps by the picks, which go on from run to run; told
// is how many were done.
func TestRunsByThePicks(t *testing.T) {
	m := two(t)
	does(t, m, "run 5", "ran 0", "get 0 5", "ok", "run 0", "ran 0", "run 1", "ran 0", "run 1", "ran 1")
	does(t, m, "run 2", "ran 1", "run 4", "ran 2", "run 101", "ran 2")
	does(t, m, "put 0 1", "ok", "get 1 5", "ok", "run 4", "ran 4")
	p := m.Pool()
	// So far 118 turns were taken: the next one is 0's, as with new picks.
	does(t, m, "run 9999", fmt.Sprint("ran ", p.Run(picks.New(), 9999)))
	is(t, "the pool", tell(m.Pool()), tell(p))
	does(t, m, "get 1 5", "ok", "run 1", "ran 1")
}

// P28.2: no more steps than 10000 are run at once.
func TestRunsNoMore(t *testing.T) {
	for _, n := range []uint64{9999, 10000, 10001, 20000, 100000, 1 << 31, 1 << 32, 1 << 63, 1<<63 + 5, math.MaxUint64} {
		m := of(t, script.Script{Threads: 1, Conf: conf.Conf{Max: 1}})
		does(t, m, "get 0 0", "ok", "run 6", "ran 6", "get 0 5", "ok") // waits for what it holds
		are(t, "run", m.Do(script.Command{Op: 6, N: n, Thread: 5, Picks: []int{3}}), fmt.Sprint("ran ", min(n, 10000)))
		is(t, "steps", m.Pool().World().History.Now(), 6+min(n, 10000))
	}
}

// P28.2: pick's numbers are the picks from now on: what was left of others is
// gone, and behind them each thread is next in turn again.
func TestPick(t *testing.T) {
	m := of(t, script.Script{Threads: 3, Conf: conf.Default()})
	does(t, m, "get 1 5", "ok", "pick 1 0 4 1000 2 1", "ok", "run 1", "ran 1", "run 1", "ran 0", "run 2", "ran 2", "run 1", "ran 0")
	does(t, m, "pick 2 2", "ok", "run 3", "ran 0", "run 1", "ran 1") // 2, 2, and then 0, 1
	are(t, "no numbers", m.Do(script.Command{Op: 7}), "ok")
	does(t, m, "run 1", "ran 0", "run 1", "ran 1") // 0, 1 again
	are(t, "any numbers", m.Do(script.Command{Op: 7, Picks: []int{-2, math.MinInt + 2, math.MaxInt}}), "ok")
	p := m.Pool()
	want := p.Run(picks.New(-2, math.MinInt+2, math.MaxInt), 3)
	does(t, m, "run 3", fmt.Sprint("ran ", want))
	is(t, "the pool", tell(m.Pool()), tell(p))
}

// P28.2: the picks aren't kept.
func TestPicksAreNotKept(t *testing.T) {
	m := two(t)
	l := append(make([]int, 0, 8), 1, 1, 1)
	are(t, "pick", m.Do(script.Command{Op: 7, Picks: l}), "ok")
	l[0], l[1], l[2] = 0, 0, 0
	does(t, m, "get 0 5", "ok", "run 3", "ran 0", "run 1", "ran 1")
	is(t, "the list", fmt.Sprint(l[:8]), "[0 0 0 0 0 0 0 0]")
}

// P28.2: so many ticks go by, up to 2^60.
func TestTick(t *testing.T) {
	m := two(t)
	does(t, m, "tick 0", "ok", "tick 5", "ok", "tick 1", "ok")
	is(t, "the tick", m.Pool().World().Now(), 6)
	is(t, "steps", m.Pool().World().History.Now(), 0)
	are(t, "any number", m.Do(script.Command{Op: 8, N: math.MaxUint64, Thread: 9}), "ok")
	is(t, "the tick", m.Pool().World().Now(), api.MaxTick)
	does(t, m, "tick 1", "ok")
	is(t, "the tick", m.Pool().World().Now(), api.MaxTick)
}

// P28.2: show tells how things stand, and changes nothing.
func TestDoShow(t *testing.T) {
	m := two(t)
	does(t, m, "get 0 5", "ok", "run 12", "ran 6")
	was := tell(m.Pool())
	are(t, "show", m.Do(script.Command{Op: 9, Thread: 9, N: 9, Picks: []int{9}}), Show(m.Pool())...)
	is(t, "the pool", tell(m.Pool()), was)
}

// P28.2: all tells each event, and then how it went; of none that alone.
func TestAll(t *testing.T) {
	m := two(t)
	are(t, "of nothing", do(t, m, "all"), "get 0 0 nan; put 0 0 nan; evict 0 0 nan; close 0 0 nan; house 0 0 nan")
	does(t, m, "get 1 5", "ok", "run 12", "ran 6", "evict 1 1", "ok", "step 1", "stepped", "put 0 1", "ok", "step 0", "stepped")
	was := tell(m.Pool())
	are(t, "all", m.Do(script.Command{Op: 10, Thread: 9, N: 9, Picks: []int{9}}),
		"0 1 call get 0 0",
		"6 1 point get 1 0",
		"6 1 answer get 1 0",
		"6 1 call evict 1 0",
		"7 1 point evict 1 0",
		"7 1 answer evict 1 0",
		"7 0 call put 1 0",
		"8 0 point put 1 5",
		"8 0 answer put 1 5",
		"get 1 1 1; put 1 0 0; evict 1 1 1; close 0 0 nan; house 0 0 nan",
	)
	is(t, "the pool", tell(m.Pool()), was)
	does(t, m, "put 1 1", "ok")
	do(t, m, "run 40")
	lines := do(t, m, "all")
	is(t, "what was closed is told", slices.ContainsFunc(lines, func(l string) bool { return strings.HasSuffix(l, " 1 retire put 1 0") }), true)
}

// P28.2: an op above 10 is no command: error 14, and nothing else.
func TestNoSuchOp(t *testing.T) {
	m := two(t)
	was := tell(m.Pool())
	for op := 11; op <= 255; op++ {
		are(t, "no such op", m.Do(script.Command{Op: uint8(op), Thread: 1, N: 5, Picks: []int{1}}), "error 14")
	}
	is(t, "the pool", tell(m.Pool()), was)
}

// P28.2, P28.1, P28.3: what nil tells.
func TestNil(t *testing.T) {
	var m *Machine
	is(t, "Pool", m.Pool() == nil, true)
	for op := range 256 {
		are(t, "Do", m.Do(script.Command{Op: uint8(op), N: 5, Picks: []int{1}}))
	}
	are(t, "Show", Show(nil))
}

// P28.3: the example.
func TestExample(t *testing.T) {
	runs(t, text("pool 2 "+seven, "get 0 5", "run 12", "show"),
		"ok", "ran 6", "tick 0 live 1", "0 idle 1", "1 idle", "id 1 leased")
}

// P28.3: of a new pool there are its threads.
func TestShowNew(t *testing.T) {
	for threads := 1; threads <= 8; threads++ {
		want := []string{"tick 0 live 0"}
		for thread := range threads {
			want = append(want, fmt.Sprint(thread, " idle"))
		}
		are(t, "new", Show(of(t, script.Script{Threads: threads, Conf: conf.Default()}).Pool()), want...)
	}
}

// P28.3: a thread's line has its state and all that it holds, rising; an id's
// line the way in which it is somewhere.
func TestShowWays(t *testing.T) {
	m := of(t, script.Script{Threads: 3, Conf: conf.Conf{Max: 3}})
	for range 3 {
		does(t, m, "get 0 5", "ok")
		do(t, m, "run 60")
	}
	does(t, m, "tick 7", "ok", "get 1 9", "ok")
	do(t, m, "run 60")
	does(t, m, "put 0 2", "ok", "step 0", "stepped")
	are(t, "carried", do(t, m, "show"), "tick 7 live 3", "0 give 1 3", "1 wait", "2 idle", "id 1 leased", "id 2 carried", "id 3 leased")
	for m.Pool().State(0) != "idle" {
		does(t, m, "step 0", "stepped")
	}
	are(t, "handed", do(t, m, "show"), "tick 7 live 3", "0 idle 1 3", "1 wait", "2 idle", "id 1 leased", "id 2 handed", "id 3 leased")
	do(t, m, "run 60")
	are(t, "leased", do(t, m, "show"), "tick 7 live 3", "0 idle 1 3", "1 idle 2", "2 idle", "id 1 leased", "id 2 leased", "id 3 leased")
	does(t, m, "put 1 2", "ok")
	do(t, m, "run 60")
	are(t, "free", do(t, m, "show"), "tick 7 live 3", "0 idle 1 3", "1 idle", "2 idle", "id 1 leased", "id 2 free", "id 3 leased")
	does(t, m, "evict 0 1", "ok", "run 60", "ran 1", "put 0 1", "ok")
	do(t, m, "run 60")
	are(t, "closed", do(t, m, "show"), "tick 7 live 2", "0 idle 3", "1 idle", "2 idle", "id 2 free", "id 3 leased")
}

// P28.3: whether it is closed, and how many are live then.
func TestShowClosed(t *testing.T) {
	m := two(t)
	does(t, m, "get 0 5", "ok", "run 12", "ran 6", "close 1", "ok")
	are(t, "not yet", do(t, m, "show"), "tick 0 live 1", "0 idle 1", "1 start", "id 1 leased")
	does(t, m, "step 1", "stepped")
	are(t, "closed", do(t, m, "show")[:1], "tick 0 closed 1")
	do(t, m, "run 60")
	does(t, m, "tick 1152921504606846976", "ok", "put 0 1", "ok")
	do(t, m, "run 60")
	are(t, "all over", do(t, m, "show"), "tick 1152921504606846976 closed 0", "0 idle", "1 idle")
}

// P28.3: what is live is told ahead of what was opened.
func TestShowGrowing(t *testing.T) {
	m := two(t)
	does(t, m, "get 1 5", "ok")
	for _, x := range []string{"start", "near", "snap", "grow"} {
		are(t, x, do(t, m, "show"), "tick 0 live 0", "0 idle", "1 "+x)
		does(t, m, "step 1", "stepped")
	}
	are(t, "open", do(t, m, "show"), "tick 0 live 1", "0 idle", "1 open")
	does(t, m, "step 1", "stepped")
	are(t, "publish", do(t, m, "show"), "tick 0 live 1", "0 idle", "1 publish", "id 1 carried")
}

// P28.3: Show tells of any pool, and leaves it as it is.
func TestShowAnyPool(t *testing.T) {
	p, _ := pool.New(conf.Conf{Max: 16}, 8, nil, nil)
	for thread := range 8 {
		for range 2 {
			p.Call(thread, hist.Get, 0, 5)
			for p.Step(thread) {
			}
		}
	}
	p.Tick(12)
	was := tell(p)
	want := []string{"tick 12 live 16"}
	for thread := range 8 {
		want = append(want, fmt.Sprintf("%d idle %d %d", thread, 2*thread+1, 2*thread+2))
	}
	for id := range 16 {
		want = append(want, fmt.Sprintf("id %d leased", id+1))
	}
	are(t, "16 of 8", Show(p), want...)
	is(t, "the pool", tell(p), was)
}

// P28.3: of a script without commands there are no lines; openings and proofs
// have none.
func TestRunWithoutCommands(t *testing.T) {
	runs(t, "pool 2 "+seven)
	runs(t, text("# so", "", "pool 8 "+seven, "opens 1 0", "proofs 0", "  "))
}

// P28.3: what opens is what all lines of the script say, wherever they stand.
func TestRunOpens(t *testing.T) {
	runs(t, text("pool 1 "+seven, "opens 0", "get 0 0", "run 20", "get 0 0", "run 20", "show", "opens 1"),
		"ok", "ran 6", "ok", "ran 6", "tick 0 live 1", "0 idle 1", "id 1 leased")
	runs(t, text("pool 1 "+seven, "get 0 0", "run 20", "opens 0 0", "get 0 0", "run 20", "all"),
		"ok", "ran 6", "ok", "ran 6",
		"0 0 call get 0 0", "6 0 point get 0 8", "6 0 answer get 0 8",
		"6 0 call get 0 0", "12 0 point get 0 8", "12 0 answer get 0 8",
		"get 2 0 0; put 0 0 nan; evict 0 0 nan; close 0 0 nan; house 0 0 nan")
}

// P28.3: of what is no script it is layer 27's line and error, and nothing is
// told, also not of the lines ahead; of what makes no pool it is 0 and New's.
func TestRunErrors(t *testing.T) {
	refuses(t, "", 0, api.ErrNone)
	refuses(t, "# so\n", 0, api.ErrNone)
	refuses(t, strings.Repeat("\n", 65537), 0, api.ErrLong)
	refuses(t, "get 0 5\npool 2 "+seven, 1, api.ErrForm)
	refuses(t, text("pool 2 "+seven, "show", "", "get 0 5", "get 8 5"), 5, api.ErrRange)
	refuses(t, text("pool 2 "+seven, "show", "x"), 3, api.ErrForm)
	refuses(t, text("", "pool 2 max=4 min=5 idle=0 life=0 keep=0 leak=0 variance=0"), 2, api.ErrRange)
	refuses(t, text("pool 2 "+seven, "opens"+strings.Repeat(" 1", 201)), 2, api.ErrMany)
	for _, threads := range []string{"0", "9", "1152921504606846976"} {
		refuses(t, text("# so", "pool "+threads+" "+seven, "show"), 0, api.ErrRange)
		refuses(t, text("# so", "pool "+threads+" "+seven, "shown"), 3, api.ErrForm)
	}
}

// P28.3: what a thread calls that the pool hasn't is an error in its place, and
// the script goes on.
func TestRunGoesOn(t *testing.T) {
	runs(t, text("pool 1 "+seven, "get 1 5", "step 1", "get 0 5", "get 0 5", "run 6", "put 7 1", "put 0 1", "tick 1", "step 0", "show"),
		"error 2", "idle", "ok", "error 12", "ran 6", "error 2", "ok", "ok", "stepped", "tick 1 live 1", "0 give", "id 1 carried")
}

// P28.4: the same words make the same lines, however they stand, and whatever
// was run in between.
func TestWordsAlone(t *testing.T) {
	tight := "pool 2 " + seven + "\nopens 1 0\nget 0 5\nget 1 5\npick 1 0\nrun 20\nshow\nall"
	loose := "\n# so\n  pool  2   " + strings.ReplaceAll(seven, " ", "  ") + " \n\n opens 1\nget 0  5\n#\n   opens 0 \nget 1 5  \npick   1 0\n run 20\nshow  \n\nall\n\n"
	want, _, _ := Run(tight)
	is(t, "some", len(want) > 10, true)
	for range 20 {
		runs(t, tight, want...)
		Run("pool 3 " + seven + "\nopens 0\nget 0 5\nrun 30\nclose 1\nrun 30")
		runs(t, loose, want...)
	}
}

// P28.2: what is told is new memory.
func TestOwnMemory(t *testing.T) {
	m := two(t)
	does(t, m, "get 0 5", "ok")
	for _, line := range []string{"get 0 5", "run 0", "show", "all", "tick 0"} {
		got := do(t, m, line)
		want := slices.Clone(do(t, m, line))
		clear(got)
		_ = append(got[:0], "x")
		are(t, line, do(t, m, line), want...)
	}
}
