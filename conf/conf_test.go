package conf

import (
	"math"
	"math/rand"
	"strings"
	"testing"

	"hackney/api"
)

const (
	top     = api.MaxTick
	written = "max=4 min=1 idle=100 life=1000 keep=50 leak=200 variance=0.25"
)

var (
	nought = math.Copysign(0, -1)
	below  = math.Nextafter(1, 0) // the greatest float below 1
	above  = math.Nextafter(1, 2)
)

// with: the default, changed.
func with(f func(c *Conf)) Conf {
	c := Default()
	f(&c)
	return c
}

// isSame: the same configuration, as far as == tells, and of the same variance.
func isSame(a, b Conf) bool {
	return a == b && math.Float64bits(a.Variance) == math.Float64bits(b.Variance)
}

// isNone: nothing is told but this error.
func isNone(t *testing.T, text string, want api.Errno) {
	t.Helper()
	if c, e := Parse(text); !isSame(c, Conf{}) || e != want {
		t.Errorf("Parse(%.99q): %v, %d, wanted the zero one, %d", text, c, e, want)
	}
}

// checks: what Check says of it, and that Text says so, too.
func checks(t *testing.T, what string, c Conf, want api.Errno) {
	t.Helper()
	if got := c.Check(); got != want {
		t.Errorf("%s: Check %d, wanted %d", what, got, want)
	}
	if s, e := c.Text(); e != want || (s == "") != (want != api.OK) {
		t.Errorf("%s: Text %q, %d, wanted %d", what, s, e, want)
	}
}

// P13.1: the default is what the document says, and may be.
func TestDefault(t *testing.T) {
	c := Default()
	if c != (Conf{4, 1, 100, 1000, 50, 200, 0.25}) {
		t.Errorf("Default: %v", c)
	}
	checks(t, "default", c, api.OK)
}

// P13.1: the least and the greatest of each may be.
func TestCheckEdges(t *testing.T) {
	cases := []struct {
		what string
		c    Conf
		want api.Errno
	}{
		{"all least", Conf{Max: 1}, api.OK},
		{"all most", Conf{16, 16, top, top, top, top, 1}, api.OK},
		{"the zero one", Conf{}, api.ErrRange},
		{"Max 0", Conf{Max: 0, Variance: 0.5}, api.ErrRange},
		{"Max below 0", Conf{Max: -1}, api.ErrRange},
		{"Max least int", Conf{Max: math.MinInt}, api.ErrRange},
		{"Max 17", Conf{Max: 17}, api.ErrRange},
		{"Max most int", Conf{Max: math.MaxInt}, api.ErrRange},
		{"MinIdle as Max", Conf{Max: 3, MinIdle: 3}, api.OK},
		{"MinIdle above Max", Conf{Max: 3, MinIdle: 4}, api.ErrRange},
		{"MinIdle above all", Conf{Max: 16, MinIdle: 17}, api.ErrRange},
		{"MinIdle below 0", Conf{Max: 3, MinIdle: -1}, api.ErrRange},
		{"MinIdle least int", Conf{Max: 3, MinIdle: math.MinInt}, api.ErrRange},
	}
	for _, c := range cases {
		checks(t, c.what, c.c, c.want)
	}
}

// P13.1: each of the four numbers of ticks is 2^60 at most.
func TestCheckTicks(t *testing.T) {
	set := []func(c *Conf, n uint64){
		func(c *Conf, n uint64) { c.Idle = n },
		func(c *Conf, n uint64) { c.Life = n },
		func(c *Conf, n uint64) { c.Keep = n },
		func(c *Conf, n uint64) { c.Leak = n },
	}
	for i, f := range set {
		for _, n := range []uint64{0, 1, top - 1, top} {
			checks(t, "ticks", with(func(c *Conf) { f(c, n) }), api.OK)
		}
		for _, n := range []uint64{top + 1, 1 << 63, math.MaxUint64} {
			c := with(func(c *Conf) { f(c, n) })
			checks(t, "ticks", c, api.ErrRange)
			c.Variance = math.NaN()
			checks(t, "ticks, and no number", c, api.ErrRange)
			if t.Failed() {
				t.Fatalf("the %d. of the four, %d", i, n)
			}
		}
	}
}

// P13.1: the variance is a number from 0 to 1; it is looked at last.
func TestCheckVariance(t *testing.T) {
	cases := []struct {
		f    float64
		want api.Errno
	}{
		{0, api.OK}, {nought, api.OK}, {math.SmallestNonzeroFloat64, api.OK},
		{0.5, api.OK}, {below, api.OK}, {1, api.OK},
		{above, api.ErrRange}, {-math.SmallestNonzeroFloat64, api.ErrRange}, {-0.5, api.ErrRange},
		{2, api.ErrRange}, {math.MaxFloat64, api.ErrRange},
		{math.Inf(1), api.ErrRange}, {math.Inf(-1), api.ErrRange},
		{math.NaN(), api.ErrNaN}, {math.Float64frombits(0xFFF0000000000001), api.ErrNaN},
	}
	for _, c := range cases {
		checks(t, "variance", with(func(x *Conf) { x.Variance = c.f }), c.want)
		checks(t, "Max ahead of the variance", Conf{Max: 17, Variance: c.f}, api.ErrRange)
		checks(t, "MinIdle ahead of the variance", Conf{Max: 2, MinIdle: 3, Variance: c.f}, api.ErrRange)
		if t.Failed() {
			t.Fatalf("variance %v", c.f)
		}
	}
}

// P13.1: how long an id lives hangs on its eighth.
func TestLifeOf(t *testing.T) {
	c := Default()
	for id, want := range []uint64{1000, 969, 938, 907, 875, 844, 813, 782, 1000, 969} {
		if got := c.LifeOf(uint64(id)); got != want {
			t.Errorf("LifeOf(%d): %d, wanted %d", id, got, want)
		}
	}
	cases := []struct {
		life     uint64
		variance float64
		id, want uint64
	}{
		{1000, 0.25, 8, 1000}, {1000, 0.25, 12, 875}, {1000, 0.25, math.MaxUint64, 782},
		{0, 0.25, 4, 0}, {0, 1, 7, 0}, {0, 0, 0, 0}, // 0 says never
		{1, 1, 7, 1}, {1, 0, 0, 1}, {2, 1, 7, 1}, {2, 1, 4, 1}, {2, 1, 3, 2},
		{8, 1, 7, 1}, {8, 1, 1, 7}, {16, 1, 7, 2},
		{1000, 0, 7, 1000}, {1000, nought, 7, 1000}, {1000, 1, 7, 125}, {1000, 1, 8, 1000},
		{1000, math.SmallestNonzeroFloat64, 7, 1000},
		{top, 1, 0, top}, {top, 1, 7, top / 8}, {top, 1, 4, top / 2}, {top, 0.25, 4, top / 8 * 7},
		{top - 1, 1, 4, top/2 - 1}, // as a float its life is 2^60
	}
	for _, c := range cases {
		x := with(func(x *Conf) { x.Life, x.Variance = c.life, c.variance })
		if got := x.LifeOf(c.id); got != c.want {
			t.Errorf("LifeOf(%d) of %d, %v: %d, wanted %d", c.id, c.life, c.variance, got, c.want)
		}
	}
}

// P13.1: an id lives as the document reckons, a tick at least, and its life at most.
func TestLifeOfByChance(t *testing.T) {
	r := rand.New(rand.NewSource(13))
	for range 20000 {
		c := Conf{Max: 1, Life: r.Uint64() >> (4 + r.Intn(60)), Variance: r.Float64()}
		if r.Intn(8) == 0 {
			c.Variance = 1
		}
		id := r.Uint64() >> r.Intn(64)
		want := uint64(0)
		if c.Life > 0 {
			eighth := float64(id%8) / 8
			part := eighth * c.Variance
			want = c.Life - uint64(float64(c.Life)*part)
		}
		got := c.LifeOf(id)
		if got != want || got > c.Life || c.Life > 0 && got < 1 {
			t.Fatalf("LifeOf(%d) of %v: %d, wanted %d", id, c, got, want)
		}
	}
}

// P13.1: what is done is numbered.
func TestNumbers(t *testing.T) {
	if None != 0 || Closing != 1 || Aged != 2 || Idle != 3 || Prove != 4 {
		t.Error("None, Closing, Aged, Idle, Prove:", None, Closing, Aged, Idle, Prove)
	}
}

// dueOf: what is told of each.
type dueOf struct {
	what string
	x    Ages
	want int
}

func (d dueOf) is(t *testing.T, c Conf) {
	t.Helper()
	if got := c.Due(d.x); got != d.want {
		t.Errorf("%s: Due(%+v) %d, wanted %d", d.what, d.x, got, d.want)
	}
}

// P13.1: of several things that are due it is the first.
func TestDueInOrder(t *testing.T) {
	old := Ages{ID: 8, Now: 5000, Live: 2} // aged, idle and to be proved
	closed := old
	closed.Closed = true
	young := old
	young.Born = 4999
	few := young
	few.Live = 1
	used := young
	used.Since = 4999
	proved := used
	proved.Proved = 4999
	for _, d := range []dueOf{
		{"closed, and all else", closed, Closing},
		{"closed, and nothing else", Ages{Closed: true}, Closing},
		{"aged, and all else", old, Aged},
		{"idle, and to be proved", young, Idle},
		{"idle, but too few live", few, Prove},
		{"to be proved", used, Prove},
		{"nothing", proved, None},
		{"the zero one", Ages{}, None},
	} {
		d.is(t, Default())
	}
}

// P13.1: each is due at its tick, and not ahead of it.
func TestDueAtItsTick(t *testing.T) {
	const now = 10000
	for _, d := range []dueOf{
		{"a life", Ages{ID: 8, Now: now, Born: now - 1000, Since: now, Proved: now}, Aged},
		{"a tick less", Ages{ID: 8, Now: now, Born: now - 999, Since: now, Proved: now}, None},
		{"a tick more", Ages{ID: 8, Now: now, Born: now - 1001, Since: now, Proved: now}, Aged},
		{"its own life", Ages{ID: 4, Now: now, Born: now - 875, Since: now, Proved: now}, Aged},
		{"a tick less", Ages{ID: 4, Now: now, Born: now - 874, Since: now, Proved: now}, None},
		{"idle", Ages{Now: now, Born: now, Since: now - 100, Proved: now, Live: 2}, Idle},
		{"a tick less", Ages{Now: now, Born: now, Since: now - 99, Proved: now, Live: 2}, None},
		{"as many as are kept", Ages{Now: now, Born: now, Since: now - 100, Proved: now, Live: 1}, None},
		{"none live", Ages{Now: now, Born: now, Since: 0, Proved: now, Live: 0}, None},
		{"below none", Ages{Now: now, Born: now, Since: 0, Proved: now, Live: math.MinInt}, None},
		{"to be proved", Ages{Now: now, Born: now, Since: now, Proved: now - 50, Live: 1}, Prove},
		{"a tick less", Ages{Now: now, Born: now, Since: now, Proved: now - 49, Live: 1}, None},
	} {
		d.is(t, Default())
	}
}

// P13.1: of 0 ticks nothing is ever due; of others nothing that is yet to come.
func TestDueNever(t *testing.T) {
	old := Ages{Now: top, Live: 16}
	d := Default()
	dueOf{"no Life", old, Idle}.is(t, with(func(c *Conf) { c.Life = 0 }))
	dueOf{"no Idle", old, Aged}.is(t, with(func(c *Conf) { c.Idle = 0 }))
	dueOf{"no Life, no Idle", old, Prove}.is(t, with(func(c *Conf) { c.Life, c.Idle = 0, 0 }))
	dueOf{"no Keep", old, None}.is(t, with(func(c *Conf) { c.Life, c.Idle, c.Keep = 0, 0, 0 }))
	dueOf{"the zero one", Ages{}, None}.is(t, with(func(c *Conf) { c.Life, c.Idle, c.Keep = 0, 0, 0 }))
	dueOf{"closed", Ages{Closed: true}, Closing}.is(t, with(func(c *Conf) { c.Life, c.Idle, c.Keep = 0, 0, 0 }))
	dueOf{"a tick to come", Ages{Now: 5, Born: 6, Since: 6, Proved: 6, Live: 16}, None}.is(t, d)
	dueOf{"the last tick to come", Ages{Now: 5, Born: top, Since: top, Proved: top, Live: 16}, None}.is(t, d)
	one := Conf{Max: 1, Life: 1, Idle: 1, Keep: 1}
	dueOf{"at once", Ages{Now: 5, Born: 5, Since: 5, Proved: 5, Live: 16}, None}.is(t, one)
	dueOf{"to come", Ages{Now: 5, Born: math.MaxUint64, Since: math.MaxUint64, Proved: math.MaxUint64, Live: 16}, None}.is(t, one)
}

// P13.1: at the last tick what is due is so by the ticks that went by.
func TestDueAtTheLastTick(t *testing.T) {
	c := Default()
	at := func(born, since, proved uint64) Ages {
		return Ages{ID: 8, Now: top, Born: born, Since: since, Proved: proved, Live: 2}
	}
	dueOf{"aged", at(top-1000, top, top), Aged}.is(t, c)
	dueOf{"not yet", at(top-999, top, top), None}.is(t, c)
	dueOf{"idle", at(top, top-100, top), Idle}.is(t, c)
	dueOf{"not yet", at(top, top-99, top), None}.is(t, c)
	dueOf{"to be proved", at(top, top, top-50), Prove}.is(t, c)
	dueOf{"not yet", at(top, top, top-49), None}.is(t, c)
	long := Conf{Max: 1, Life: top, Idle: top, Keep: top}
	dueOf{"all ticks", at(0, 0, 0), Aged}.is(t, long)
	dueOf{"all but one", at(1, 1, 1), None}.is(t, long)
	x := at(1, 1, 1)
	x.Now = top + 1 // a clock tells no more than the last tick
	dueOf{"behind the last tick", x, None}.is(t, long)
}

// P13.1: whatever is asked, it is the first that the document names.
func TestDueByChance(t *testing.T) {
	r := rand.New(rand.NewSource(3))
	small := func() uint64 { return uint64(r.Intn(6)) }
	for range 50000 {
		c := Conf{Max: 4, MinIdle: r.Intn(3), Idle: small(), Life: small(), Keep: small(), Variance: float64(r.Intn(5)) / 4}
		x := Ages{small() * 3, small(), small(), small(), small(), r.Intn(4), r.Intn(9) == 0}
		behind := func(tick, n uint64) bool { return n > 0 && x.Now >= tick+n }
		want := None
		switch {
		case x.Closed:
			want = Closing
		case behind(x.Born, c.LifeOf(x.ID)):
			want = Aged
		case behind(x.Since, c.Idle) && x.Live > c.MinIdle:
			want = Idle
		case behind(x.Proved, c.Keep):
			want = Prove
		}
		if got := c.Due(x); got != want {
			t.Fatalf("%+v: Due(%+v) %d, wanted %d", c, x, got, want)
		}
	}
}

// P13.2: how a configuration is written.
func TestText(t *testing.T) {
	cases := []struct {
		c    Conf
		want string
	}{
		{Default(), written},
		{Conf{Max: 1}, "max=1 min=0 idle=0 life=0 keep=0 leak=0 variance=0"},
		{Conf{Max: 1, Variance: nought}, "max=1 min=0 idle=0 life=0 keep=0 leak=0 variance=0"},
		{Conf{16, 16, top, top - 1, 1, 10, 1}, "max=16 min=16 idle=1152921504606846976 life=1152921504606846975 keep=1 leak=10 variance=1"},
		{Conf{3, 2, 5, 6, 7, 8, below}, "max=3 min=2 idle=5 life=6 keep=7 leak=8 variance=0.9999999999999999"},
		{Conf{3, 2, 5, 6, 7, 8, 0.1}, "max=3 min=2 idle=5 life=6 keep=7 leak=8 variance=0.1"},
		{Conf{3, 2, 5, 6, 7, 8, 0.0001}, "max=3 min=2 idle=5 life=6 keep=7 leak=8 variance=0.0001"},
		{Conf{3, 2, 5, 6, 7, 8, 0.00001}, "max=3 min=2 idle=5 life=6 keep=7 leak=8 variance=1e-05"},
	}
	for _, c := range cases {
		if got, e := c.c.Text(); got != c.want || e != api.OK {
			t.Errorf("%v: %q, %d, wanted %q", c.c, got, e, c.want)
		}
	}
}

// P13.2: what is read.
func TestParse(t *testing.T) {
	cases := []struct {
		text string
		want Conf
	}{
		{written, Default()},
		{"max=1 min=0 idle=0 life=0 keep=0 leak=0 variance=0", Conf{Max: 1}},
		{"max=16 min=16 idle=1152921504606846976 life=1152921504606846975 keep=1 leak=10 variance=1", Conf{16, 16, top, top - 1, 1, 10, 1}},
		{"max=10 min=9 idle=10 life=20 keep=30 leak=40 variance=0.0", Conf{10, 9, 10, 20, 30, 40, 0}},
		{"max=10 min=9 idle=10 life=20 keep=30 leak=40 variance=1.000", Conf{10, 9, 10, 20, 30, 40, 1}},
		{"max=10 min=9 idle=10 life=20 keep=30 leak=40 variance=0.2500", Conf{10, 9, 10, 20, 30, 40, 0.25}},
		{"max=10 min=9 idle=10 life=20 keep=30 leak=40 variance=0.00001", Conf{10, 9, 10, 20, 30, 40, 0.00001}},
	}
	for _, c := range cases {
		if got, e := Parse(c.text); !isSame(got, c.want) || e != api.OK {
			t.Errorf("Parse(%q): %v, %d, wanted %v", c.text, got, e, c.want)
		}
	}
}

// P13.2: the variance is the float next to what is written, however long that is.
func TestParseIsNearest(t *testing.T) {
	const half = "0.50000000000000005551115123125782702118158340454101562" // halfway to the next float, but for the last digit
	cases := []struct {
		text string
		want float64
	}{
		{"0.1", 0.1}, {"0.30000000000000004", 0.30000000000000004},
		{half + "4", 0.5}, {half + "5", 0.5}, // to the even one
		{half + "5" + strings.Repeat("0", 2000) + "1", math.Nextafter(0.5, 1)},
		{"0." + strings.Repeat("9", 5000), 1},
		{"1." + strings.Repeat("0", 5000) + "1", 1},
		{"0." + strings.Repeat("0", 5000) + "1", 0},
		{"0." + strings.Repeat("0", 323) + "5", math.SmallestNonzeroFloat64},
	}
	for _, c := range cases {
		got, e := Parse("max=1 min=0 idle=0 life=0 keep=0 leak=0 variance=" + c.text)
		want := Conf{Max: 1, Variance: c.want}
		if !isSame(got, want) || e != api.OK {
			t.Errorf("variance %.60s: %v, %d, wanted %v", c.text, got, e, want)
		}
	}
}

// put: the words as they are written, with another value behind one key.
func put(place int, value string) string {
	words := strings.Split(written, " ")
	key, _, _ := strings.Cut(words[place], "=")
	words[place] = key + "=" + value
	return strings.Join(words, " ")
}

// P13.2: it is seven words, one blank between, in their order.
func TestParseWords(t *testing.T) {
	for _, text := range []string{
		"", " ", "max=4", strings.Repeat(" ", 6), strings.Repeat(" ", 7),
		" " + written, written + " ", written + "\n", "\n" + written,
		strings.Replace(written, " ", "  ", 1), strings.Replace(written, " ", "\t", 1),
		strings.ReplaceAll(written, " ", ","), strings.ReplaceAll(written, " ", ""),
		written + " variance=0.25", written + " more=1", written + " " + written,
		strings.TrimSuffix(written, " variance=0.25"), strings.TrimPrefix(written, "max=4 "),
		"min=1 max=4 idle=100 life=1000 keep=50 leak=200 variance=0.25",
		"max=4 min=1 idle=100 life=1000 leak=200 keep=50 variance=0.25",
		"max=4 max=4 idle=100 life=1000 keep=50 leak=200 variance=0.25",
		"Max=4 min=1 idle=100 life=1000 keep=50 leak=200 variance=0.25",
		"max:4 min=1 idle=100 life=1000 keep=50 leak=200 variance=0.25",
		"max4 min=1 idle=100 life=1000 keep=50 leak=200 variance=0.25",
		"4 1 100 1000 50 200 0.25",
		"max==4 min=1 idle=100 life=1000 keep=50 leak=200 variance=0.25",
		"max =4 min=1 idle=100 life=1000 keep=50 leak=200 variance=0.25",
		"max= 4 min=1 idle=100 life=1000 keep=50 leak=200 variance=0.25",
		"xmax=4 min=1 idle=100 life=1000 keep=50 leak=200 variance=0.25",
		"maxi=4 min=1 idle=100 life=1000 keep=50 leak=200 variance=0.25",
		"max min=1 idle=100 life=1000 keep=50 leak=200 variance=0.25",
		"max=4 min=1 idle=100 life=1000 keep=50 leak=200 var=0.25",
		strings.Repeat(written+" ", 1000), strings.Repeat(" ", 1<<20),
	} {
		isNone(t, text, api.ErrForm)
	}
}

// P13.2: behind a = stand digits, without noughts ahead; of the variance a point, too.
func TestParseDigits(t *testing.T) {
	wrong := []string{
		"", "00", "01", "007", "-1", "+1", "-0", "1_000", "0x1", "1e2", "1E2", "a", "4a", "a4", "4a4",
		"=", "4=", "\x00", "4\x00", "4\n", "4\t", "4,", "\u0664", "\xff", "\u00b2", "inf", "nan", "NaN", "+Inf",
		strings.Repeat("0", 1000), "0" + strings.Repeat("1", 1000),
	}
	for place := range wordCount {
		for _, value := range wrong {
			isNone(t, put(place, value), api.ErrForm)
		}
	}
	for place := range variance {
		for _, value := range []string{".", "1.", "1.0", ".1", "0.5"} {
			isNone(t, put(place, value), api.ErrForm)
		}
	}
	for _, value := range []string{
		".", "0.", "1.", ".5", "00.5", "01.5", "0.5.", "0.5.5", "0..5", "-0.5", "+0.5", "0.-5", "0.+5", "0.5e1", "0.5e-1",
		"0.5E1", "0,5", "0.5a", "a.5", "0.a", "0x0.5", "0.5_5", "0.\u0665", "1e-05", "0x1p-2", "5.e1",
	} {
		isNone(t, put(variance, value), api.ErrForm)
	}
}

// P13.2: numbers that are too great, or don't go together, however long they are.
func TestParseRange(t *testing.T) {
	great := []string{
		"1152921504606846977", "9223372036854775807", "9223372036854775808", "9223372036854775812",
		"18446744073709551615", "18446744073709551616", "18446744073709551620", "1" + strings.Repeat("0", 5000),
	}
	for place := range wordCount {
		for _, value := range great {
			isNone(t, put(place, value), api.ErrRange)
		}
	}
	for _, value := range append(great, "1.1", "2", "1.0000000000000003", "10", "1"+strings.Repeat("0", 400), "1"+strings.Repeat("0", 400)+".5") {
		isNone(t, put(variance, value), api.ErrRange)
	}
	for _, text := range []string{
		put(0, "0"), put(0, "17"), put(0, "1152921504606846976"), put(1, "5"), put(1, "16"), put(1, "1152921504606846976"),
	} {
		isNone(t, text, api.ErrRange)
	}
	isNone(t, "max=0 min=0 idle=0 life=0 keep=0 leak=0 variance=0", api.ErrRange)
}

// P13.2: what is wrong with the form comes ahead of what is too great, wherever they stand.
func TestParseFormAheadOfRange(t *testing.T) {
	for _, text := range []string{
		"max=17 min=1 idle=100 life=1000 keep=50 leak=200 variance=.5",
		"max=1152921504606846977 min=01 idle=100 life=1000 keep=50 leak=200 variance=0.25",
		"max=99999999999999999999 min=1 idle=100 life=1000 keep=50 leak=x variance=0.25",
		"max=4 min=5 idle=100 life=1000 keep=50 leak=200 variance=0.25 more",
		"max=0 min=1 idle=100 life=1000 keep=50 leak=200",
		"max=4 min=1 idle=100 life=1000 keep=50 leak= variance=2",
	} {
		isNone(t, text, api.ErrForm)
	}
}

// P13.3: what is written is read as it was, but with an exponent.
func TestTextAndParse(t *testing.T) {
	r := rand.New(rand.NewSource(7))
	ticks := func() uint64 { return min(top, r.Uint64()>>(3+r.Intn(61))) }
	plain := 0
	for range 20000 {
		n := 1 + r.Intn(api.MaxSize)
		c := Conf{n, r.Intn(n + 1), ticks(), ticks(), ticks(), ticks(), r.Float64()}
		switch r.Intn(8) {
		case 0:
			c.Variance = float64(r.Intn(2))
		case 1:
			c.Variance = float64(r.Intn(101)) / 100
		case 2:
			c.Variance = math.Ldexp(c.Variance, -r.Intn(1080))
		case 3:
			c.Variance = nought
		}
		s, e := c.Text()
		if e != api.OK {
			t.Fatalf("%v: Text %q, %d", c, s, e)
		}
		if strings.Contains(s, "e-") {
			isNone(t, s, api.ErrForm)
			continue
		}
		plain++
		want := c
		if want.Variance == 0 {
			want.Variance = 0 // of -0 it is 0 that is written
		}
		if got, e := Parse(s); !isSame(got, want) || e != api.OK {
			t.Fatalf("%q: %v, %d, wanted %v", s, got, e, want)
		}
	}
	if plain < 10000 {
		t.Errorf("only %d without an exponent", plain)
	}
}

// P13.3: what is read is written as it was, where it was written so.
func TestParseAndText(t *testing.T) {
	for _, text := range []string{
		written,
		"max=16 min=0 idle=1152921504606846976 life=0 keep=1 leak=99 variance=1",
		"max=2 min=2 idle=3 life=4 keep=5 leak=6 variance=0.0001",
		"max=2 min=2 idle=3 life=4 keep=5 leak=6 variance=0.12345678901234566",
	} {
		c, e := Parse(text)
		if s, f := c.Text(); s != text || e != api.OK || f != api.OK {
			t.Errorf("%q: %d, then %q, %d", text, e, s, f)
		}
	}
}

// P1: nothing panics, whatever the text or the numbers are.
func TestWhateverIsAsked(t *testing.T) {
	r := rand.New(rand.NewSource(9))
	for range 20000 {
		b := []byte(written)
		for range 1 + r.Intn(3) {
			switch i := r.Intn(len(b)); r.Intn(3) {
			case 0:
				b[i] = byte(r.Intn(256))
			case 1:
				b = append(b[:i], b[i+1:]...)
			case 2:
				b = append(b[:i], append([]byte{b[r.Intn(len(b))]}, b[i:]...)...)
			}
		}
		c, e := Parse(string(b))
		if e != api.OK && !isSame(c, Conf{}) || e == api.OK && c.Check() != api.OK {
			t.Fatalf("Parse(%q): %v, %d", b, c, e)
		}
	}
	for _, f := range []float64{math.NaN(), math.Inf(1), math.Inf(-1), -1, 9} {
		c := Conf{-1, -5, math.MaxUint64, math.MaxUint64, math.MaxUint64, math.MaxUint64, f}
		c.LifeOf(7)
		c.Due(Ages{7, math.MaxUint64, math.MaxUint64, 0, 5, -1, false})
		if s, e := c.Text(); s != "" || e != api.ErrRange {
			t.Errorf("Text of %v: %q, %d", c, s, e)
		}
	}
}
