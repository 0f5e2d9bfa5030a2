package machine

import (
	"fmt"
	"math/rand"
	"slices"
	"strings"
	"testing"

	"hackney/api"
	"hackney/check"
	"hackney/cond"
	"hackney/conf"
	"hackney/hist"
	"hackney/picks"
	"hackney/pool"
	"hackney/script"
	"hackney/stats"
)

// model: the same as a machine, by the layers below alone.
type model struct {
	p *pool.Pool
	q *picks.Picks
}

// do: what a command says.
func (m *model) do(c script.Command) []string {
	called := func(id, timeout uint64) []string {
		if e := m.p.Call(c.Thread, int(c.Op), id, timeout); e != api.OK {
			return []string{fmt.Sprintf("error %d", e)}
		}
		return []string{"ok"}
	}
	switch c.Op {
	case 0:
		return called(0, c.N)
	case 1, 2:
		return called(c.N, 0)
	case 3, 4:
		return called(0, 0)
	case 5:
		return []string{map[bool]string{true: "stepped", false: "idle"}[m.p.Step(c.Thread)]}
	case 6:
		n := 0
		for range min(c.N, 10000) {
			if thread, _ := m.q.Next(m.p.Threads()); m.p.Step(thread) {
				n++
			}
		}
		return []string{fmt.Sprintf("ran %d", n)}
	case 7:
		m.q = picks.New(c.Picks...)
	case 8:
		m.p.Tick(c.N)
	case 9:
		return shown(m.p)
	case 10:
		var out []string
		l := m.p.World().History.All()
		for _, x := range l {
			kind := []string{"call", "point", "answer", "retire"}[x.Kind]
			op := []string{"get", "put", "evict", "close", "house"}[x.Op]
			out = append(out, fmt.Sprintf("%d %d %s %s %d %d", x.Step, x.Thread, kind, op, x.ID, x.Err))
		}
		return append(out, stats.Line(l...))
	default:
		return []string{"error 14"}
	}
	return []string{"ok"}
}

// shown: how things stand, id by id of all that were opened.
func shown(p *pool.Pool) []string {
	w := p.World()
	out := []string{fmt.Sprintf("tick %d %s %d", w.Now(), map[bool]string{true: "closed", false: "live"}[w.Closed], w.Live)}
	for thread := range p.Threads() {
		line := fmt.Sprintf("%d %s", thread, p.State(thread))
		for id := uint64(1); id <= w.Factory.Opened(); id++ {
			if holder, held := w.Book.Holder(id); held && holder == thread {
				line += fmt.Sprintf(" %d", id)
			}
		}
		out = append(out, line)
	}
	for id := uint64(1); id <= w.Factory.Opened(); id++ {
		ways := cond.Where(p, id)
		if !slices.Contains(ways, "closed") {
			out = append(out, strings.Join(append([]string{"id", fmt.Sprint(id)}, ways...), " "))
		}
	}
	return out
}

// anyBits: some that go well or not.
func anyBits(r *rand.Rand) []bool {
	var out []bool
	for range r.Intn(9) {
		out = append(out, r.Intn(3) > 0)
	}
	return out
}

// anyHead: some threads, configuration, and what opens and proves.
func anyHead(r *rand.Rand) script.Script {
	most := 1 + r.Intn(5)
	c := conf.Conf{Max: most, MinIdle: r.Intn(most + 1), Variance: float64(r.Intn(5)) / 4}
	for _, ticks := range []*uint64{&c.Idle, &c.Life, &c.Keep, &c.Leak} {
		*ticks = uint64(r.Intn(3) * r.Intn(12))
	}
	return script.Script{Threads: 1 + r.Intn(5), Conf: c, Opens: anyBits(r), Proofs: anyBits(r)}
}

// anyCommand: one that a script may have; often of what a thread holds.
func anyCommand(r *rand.Rand, p *pool.Pool) script.Command {
	c := script.Command{Op: 6, Thread: r.Intn(p.Threads()), N: uint64(r.Intn(20))}
	switch k := r.Intn(100); {
	case k < 25:
		c.Op, c.N = hist.Get, uint64(r.Intn(6))
	case k < 45:
		c.Op, c.N = hist.Put, uint64(r.Intn(8))
	case k < 50:
		c.Op, c.N = hist.Evict, uint64(r.Intn(8))
	case k < 51:
		c.Op = hist.Close
	case k < 57:
		c.Op = hist.House
	case k < 70:
		c.Op = 5
	case k < 78:
		c.Op = 7
		for range 1 + r.Intn(9) {
			c.Picks = append(c.Picks, r.Intn(9))
		}
	case k < 85:
		c.Op, c.N = 8, uint64(r.Intn(4))
	case k < 87:
		c.Op = uint8(9 + r.Intn(2))
	}
	held := p.World().Book.Held(c.Thread)
	if (c.Op == hist.Put || c.Op == hist.Evict) && len(held) > 0 && r.Intn(6) > 0 {
		c.N = held[r.Intn(len(held))]
	}
	return c
}

// oddCommand: one that no script may have.
func oddCommand(r *rand.Rand) script.Command {
	return script.Command{
		Line: r.Intn(9) - 4, Op: uint8(r.Intn(14)), Thread: r.Intn(12) - 3,
		N: r.Uint64() >> r.Intn(64), Picks: []int{r.Int() - r.Int(), -r.Intn(5)}[:r.Intn(3)],
	}
}

// P28.2, P28.3: whatever a machine does, it tells what layers below tell, and
// its pool is as it would be by those alone.
func TestAsTheLayersBelow(t *testing.T) {
	r := rand.New(rand.NewSource(28))
	for range 200 {
		s := anyHead(r)
		m := of(t, s)
		p, _ := pool.New(s.Conf, s.Threads, s.Opens, s.Proofs)
		by := &model{p, picks.New()}
		for range 60 {
			c := anyCommand(r, by.p)
			if r.Intn(10) == 0 {
				c = oddCommand(r)
			}
			was := fmt.Sprint(c)
			are(t, was, m.Do(c), by.do(c)...)
			is(t, "the command", fmt.Sprint(c), was)
			are(t, "how it stands", Show(m.Pool()), shown(by.p)...)
		}
		is(t, "the pool", tell(m.Pool()), tell(by.p))
		if t.Failed() {
			t.Fatalf("of %+v", s)
		}
	}
}

// P28.3, P28.4: a text's lines are those of its commands, one by one, and the
// same again, however it is written.
func TestRunIsEachCommand(t *testing.T) {
	r := rand.New(rand.NewSource(284))
	for range 150 {
		s := anyHead(r)
		m := of(t, s)
		var want []string
		for range 40 {
			c := anyCommand(r, m.Pool())
			s.Commands = append(s.Commands, c)
			want = append(want, m.Do(c)...)
		}
		words, e := script.Print(s)
		is(t, "Print", e, api.OK)
		runs(t, words, want...)
		runs(t, "\n# so\n"+strings.ReplaceAll(strings.ReplaceAll(words, " ", "  "), "\n", " \n\n"), want...)
		runs(t, words, want...)
	}
}

// inOrder: the history is one of leases, behind which the book's are; each id
// is in just one place, and no more are open than there may be.
func inOrder(t *testing.T, p *pool.Pool) {
	t.Helper()
	w := p.World()
	l := w.History.All()
	n, e := check.Check(l...)
	if n != len(l) || e != api.OK {
		t.Errorf("the event %d has %d, of %v", n, e, l)
	}
	is(t, "leases", check.End(l...).Leases(), w.Book.Len())
	is(t, "lost", fmt.Sprint(cond.Lost(p)), "[]")
	is(t, "open", len(w.Factory.IDs()) <= w.Conf.Max, true)
}

// inTime: no Get is sent away for its deadline ahead of that. Of each thread
// its deadline, or none.
func inTime(t *testing.T, p *pool.Pool, from int, deadlines map[int]uint64) int {
	t.Helper()
	l, now := p.World().History.All(), p.World().Now()
	for _, x := range l[from:] {
		if x.Kind == hist.Answer && x.Op == hist.Get && x.Err == api.ErrTimeout && now < deadlines[x.Thread] {
			t.Errorf("sent away at %d, ahead of %d", now, deadlines[x.Thread])
		}
	}
	return len(l)
}

// finish: all that is on its way is done, what is held put back, and all is
// closed.
func finish(m *Machine) {
	run := script.Command{Op: 6, N: 3000}
	m.Do(script.Command{Op: 7}) // each in turn
	m.Do(script.Command{Op: 8, N: 10})
	for range 2 {
		m.Do(run)
		p := m.Pool()
		for thread := range p.Threads() {
			for _, id := range p.World().Book.Held(thread) {
				m.Do(script.Command{Op: hist.Put, Thread: thread, N: id})
				m.Do(run)
			}
		}
	}
	m.Do(script.Command{Op: hist.Close})
	m.Do(run)
}

// P2, P3, P4, P6: whatever is played, what came of it is in order, each id is
// in just one place, nobody is sent away ahead of time; and once it is closed,
// and all is given back, nothing is left.
func TestWhole(t *testing.T) {
	r := rand.New(rand.NewSource(2))
	seen := map[api.Errno]int{}
	for range 200 {
		m := of(t, anyHead(r))
		events, deadlines := 0, map[int]uint64{}
		for range 80 {
			p := m.Pool()
			c := anyCommand(r, p)
			if told := m.Do(c); c.Op == hist.Get && told[0] == "ok" {
				deadlines[c.Thread] = p.World().Now() + c.N
			}
			p = m.Pool()
			inOrder(t, p)
			events = inTime(t, p, events, deadlines)
		}
		finish(m)
		p := m.Pool()
		inOrder(t, p)
		is(t, "quiet", cond.Quiet(p), true)
		are(t, "nothing", Show(p)[1+p.Threads():])
		for _, x := range p.World().History.All() {
			if x.Kind == hist.Answer {
				seen[x.Err]++
			}
		}
	}
	for _, e := range []api.Errno{api.OK, api.ErrNotHeld, api.ErrClosed, api.ErrTimeout, api.ErrOpen} {
		if seen[e] == 0 {
			t.Errorf("none was ever answered %d", e)
		}
	}
}

// one: a pool of two threads, in which there is room for one thing.
const one = "pool 2 max=1 min=0 idle=0 life=0 keep=0 leak=0 variance=0"

// stands: what a script's shows tell, or a test fails; how many steps it all
// took plays no part.
func stands(t *testing.T, text string, want ...string) {
	t.Helper()
	l, line, e := Run(text)
	is(t, "line", line, 0)
	is(t, "error", e, api.OK)
	l = slices.DeleteFunc(l, func(x string) bool { return x == "ok" || strings.HasPrefix(x, "ran ") })
	are(t, "how it stands", l, want...)
}

// P5, the fifth example: who parked first is handed first.
func TestServed(t *testing.T) {
	room := strings.Replace(one, "pool 2", "pool 3", 1)
	stands(t, text(room, "get 0 5", "run 18", "get 2 5", "pick 2 2 2 2 2 2 2 2", "run 8", "get 1 5", "run 60", "show",
		"put 0 1", "run 60", "show", "put 2 1", "run 60", "show"),
		"tick 0 live 1", "0 idle 1", "1 wait", "2 wait", "id 1 leased",
		"tick 0 live 1", "0 idle", "1 wait", "2 idle 1", "id 1 leased",
		"tick 0 live 1", "0 idle", "1 idle 1", "2 idle", "id 1 leased")
}

// The seventh example: a Get of a new pool takes six steps, and has the id 1.
func TestSixSteps(t *testing.T) {
	runs(t, text("pool 1 "+seven, "get 0 5", "run 5", "show", "step 0", "step 0", "show"),
		"ok", "ran 5", "tick 0 live 1", "0 publish", "id 1 carried",
		"stepped", "idle", "tick 0 live 1", "0 idle 1", "id 1 leased")
}

// The eighth example: who puts what another one holds has error 5, and changes
// nothing.
func TestPutOfAnothers(t *testing.T) {
	runs(t, text("pool 2 "+seven, "get 0 5", "run 12", "put 1 1", "evict 1 1", "run 2", "step 1", "show", "all"),
		"ok", "ran 6", "ok", "error 12", "ran 1", "idle", "tick 0 live 1", "0 idle 1", "1 idle", "id 1 leased",
		"0 0 call get 0 0", "6 0 point get 1 0", "6 0 answer get 1 0",
		"6 1 call put 1 0", "7 1 point put 1 5", "7 1 answer put 1 5",
		"get 1 1 1; put 1 0 0; evict 0 0 nan; close 0 0 nan; house 0 0 nan")
}

// The ninth example: a Get of the timeout 5, called at the tick 3, never ends
// with error 7 ahead of the tick 8.
func TestNeverAhead(t *testing.T) {
	l, _, _ := Run(text(one, "get 0 5", "run 12", "tick 3", "get 1 5", "run 10000", "tick 4", "run 10000", "show", "tick 1", "run 10", "show", "all"))
	i := slices.Index(l, "tick 7 live 1")
	are(t, "at 7", l[i:i+4], "tick 7 live 1", "0 idle 1", "1 wait", "id 1 leased")
	i = slices.Index(l, "tick 8 live 1")
	are(t, "at 8", l[i:i+4], "tick 8 live 1", "0 idle 1", "1 idle", "id 1 leased")
	are(t, "how it went", l[len(l)-1:], "get 2 1 0.5; put 0 0 nan; evict 0 0 nan; close 0 0 nan; house 0 0 nan")
	is(t, "error 7", strings.HasSuffix(l[len(l)-2], " 1 answer get 0 7"), true)
}

// The tenth example: a second Close has error 6.
func TestSecondClose(t *testing.T) {
	runs(t, text("pool 2 "+seven, "close 0", "run 9", "close 1", "run 9", "show", "all"),
		"ok", "ran 2", "ok", "ran 1", "tick 0 closed 0", "0 idle", "1 idle",
		"0 0 call close 0 0", "1 0 point close 0 0", "2 0 answer close 0 0",
		"2 1 call close 0 0", "3 1 point close 0 6", "3 1 answer close 0 6",
		"get 0 0 nan; put 0 0 nan; evict 0 0 nan; close 2 1 0.5; house 0 0 nan")
}

// P4: nothing is closed but for a reason: a round closes what is idle, and
// leaves what is not.
func TestForAReason(t *testing.T) {
	idle := strings.Replace(one, "idle=0", "idle=5", 1)
	stands(t, text(idle, "get 0 5", "run 20", "put 0 1", "run 20", "tick 4", "house 1", "run 20", "show", "tick 1", "house 1", "run 40", "show"),
		"tick 4 live 1", "0 idle", "1 idle", "id 1 free",
		"tick 5 live 0", "0 idle", "1 idle")
}
