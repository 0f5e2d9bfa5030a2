package script

import (
	"fmt"
	"math"
	"slices"
	"strings"
	"testing"

	"hackney/api"
	"hackney/conf"
)

const (
	top      = api.MaxTick
	topText  = "1152921504606846976"
	overText = "1152921504606846977"
	seven    = "max=4 min=1 idle=100 life=1000 keep=50 leak=200 variance=0.25"
	begin    = "pool 2 " + seven + "\n"
)

// is: it was wanted so, or a test fails.
func is[T comparable](t *testing.T, what string, got, want T) {
	t.Helper()
	if got != want {
		t.Errorf("%s: %v, wanted %v", what, got, want)
	}
}

// of: a script of two threads and the default, with these commands.
func of(l ...Command) Script {
	return Script{Threads: 2, Conf: conf.Default(), Commands: l}
}

// tell: all that a script has; a list without elements is told as nil is.
func tell(s Script) string { return fmt.Sprintf("%+v", s) }

// parses: the text is that script, or a test fails.
func parses(t *testing.T, text string, want Script) {
	t.Helper()
	s, line, e := Parse(text)
	if tell(s) != tell(want) || line != 0 || e != api.OK {
		t.Errorf("Parse(%.200q): %.300s, %d, %d, wanted %.300s", text, tell(s), line, e, tell(want))
	}
}

// refuses: nothing is told of the text but that line and error.
func refuses(t *testing.T, text string, line int, want api.Errno) {
	t.Helper()
	s, at, e := Parse(text)
	if tell(s) != tell(Script{}) || at != line || e != want {
		t.Errorf("Parse(%.200q): %.200s, %d, %d, wanted the zero one, %d, %d", text, tell(s), at, e, line, want)
	}
}

// prints: the script is that text, or a test fails.
func prints(t *testing.T, s Script, want string) {
	t.Helper()
	text, e := Print(s)
	if text != want || e != api.OK {
		t.Errorf("Print: %.300q, %d, wanted %.300q", text, e, want)
	}
}

// unprinted: nothing is told of the script but that error.
func unprinted(t *testing.T, what string, s Script, want api.Errno) {
	t.Helper()
	text, e := Print(s)
	if text != "" || e != want {
		t.Errorf("%s: Print %.200q, %d, wanted none, %d", what, text, e, want)
	}
}

// again: a text so many times.
func again(text string, times int) string { return strings.Repeat(text, times) }

// every: one of each op, and its line.
var every = []struct {
	line string
	c    Command
}{
	{"get 1 5", Command{Op: 0, Thread: 1, N: 5}},
	{"get 0 " + topText, Command{Op: 0, N: top}},
	{"put 7 0", Command{Op: 1, Thread: 7}},
	{"put 6 " + topText, Command{Op: 1, Thread: 6, N: top}},
	{"evict 2 10", Command{Op: 2, Thread: 2, N: 10}},
	{"evict 0 " + topText, Command{Op: 2, N: top}},
	{"close 0", Command{Op: 3}},
	{"close 7", Command{Op: 3, Thread: 7}},
	{"house 3", Command{Op: 4, Thread: 3}},
	{"step 7", Command{Op: 5, Thread: 7}},
	{"run 0", Command{Op: 6}},
	{"run 10000", Command{Op: 6, N: 10000}},
	{"pick 0", Command{Op: 7, Picks: []int{0}}},
	{"pick 1000 0 7 7", Command{Op: 7, Picks: []int{1000, 0, 7, 7}}},
	{"tick 0", Command{Op: 8}},
	{"tick " + topText, Command{Op: 8, N: top}},
	{"show", Command{Op: 9}},
	{"all", Command{Op: 10}},
}

// P27.1, P27.2: each line of the table is a command, and is printed so.
func TestEachLine(t *testing.T) {
	text, all := begin, []Command(nil)
	for i, x := range every {
		c := x.c
		c.Line = 2
		parses(t, begin+x.line, of(c))
		prints(t, of(x.c), begin+x.line+"\n")
		text += x.line + "\n"
		c.Line = i + 2
		all = append(all, c)
	}
	parses(t, text, of(all...))
	prints(t, of(all...), text)
}

// P27.1: the example.
func TestExample(t *testing.T) {
	parses(t, begin+"get 1 5", of(Command{2, 0, 1, 5, nil}))
}

// P27.1: the threads are what the line says, whether there may be so many or
// not; the configuration is what layer 13 reads.
func TestPoolLine(t *testing.T) {
	for text, n := range map[string]int{"0": 0, "1": 1, "8": 8, "9": 9, "1000000": 1000000, topText: top} {
		parses(t, "pool "+text+" "+seven, Script{Threads: n, Conf: conf.Default()})
		prints(t, Script{Threads: n, Conf: conf.Default()}, "pool "+text+" "+seven+"\n")
	}
	c := conf.Conf{Max: 16, MinIdle: 16, Idle: top, Leak: 1, Variance: 1}
	parses(t, "pool 3 max=16 min=16 idle="+topText+" life=0 keep=0 leak=1 variance=1.000", Script{Threads: 3, Conf: c})
	prints(t, Script{Threads: 3, Conf: c}, "pool 3 max=16 min=16 idle="+topText+" life=0 keep=0 leak=1 variance=1\n")
}

// P27.1: one blank or more may be between, ahead, and behind; lines without
// words and remarks don't count, but have a number.
func TestWhatDoesNotCount(t *testing.T) {
	want := of(Command{Line: 8, Op: 0, Thread: 1, N: 5}, Command{Line: 11, Op: 9})
	text := "\n   \n#\n#pool 3\n  # pool 3 x\n   pool   2  " + strings.ReplaceAll(seven, " ", "   ") + "  \n" +
		"#get\n  get    1 5   \n\n   ##\nshow"
	parses(t, text, want)
	parses(t, text+"\n", want)
	parses(t, text+"\n\n \n# the end", want)
}

// P27.1: a remark is a whole line: # stands nowhere else.
func TestRemarksWithin(t *testing.T) {
	refuses(t, begin+"show # so", 2, api.ErrForm)
	refuses(t, begin+"get 1 5 #", 2, api.ErrForm)
	refuses(t, begin+"get 1 #5", 2, api.ErrForm)
	refuses(t, "pool 2 "+seven+" # so", 1, api.ErrForm)
}

// P27.1: nothing but a blank stands between words, and nothing but a line feed
// ends a line.
func TestOtherBlanks(t *testing.T) {
	for _, x := range []string{"\t", "\r", "\v", "\f", "\x00", "\u00a0", "\u2003", "\u0085", "\xa0", "\xff"} {
		refuses(t, begin+"get"+x+"1 5", 2, api.ErrForm)
		refuses(t, begin+"get 1"+x+"5", 2, api.ErrForm)
		refuses(t, begin+"get 1 5"+x, 2, api.ErrForm)
		refuses(t, begin+"show"+x+"\n", 2, api.ErrForm)
		refuses(t, begin+"\n"+x+"\n", 3, api.ErrForm)
		refuses(t, begin+"get 1 5"+x+"show", 2, api.ErrForm)
		refuses(t, begin+x+"#", 2, api.ErrForm)
		refuses(t, "pool 2 "+seven+x, 1, api.ErrForm)
		parses(t, begin+"#"+x+"\n# "+x+" get 9\nshow", of(Command{Line: 4, Op: 9}))
	}
}

// P27.1: what opens and what proves goes on with each such line, wherever it
// stands; these are no commands.
func TestGoesOn(t *testing.T) {
	want := of(Command{Line: 4, Op: 9}, Command{Line: 7, Op: 10})
	want.Opens = []bool{true, false, false, true}
	want.Proofs = []bool{false, true}
	parses(t, begin+"opens 1 0\nproofs 0\nshow\n\nopens 0\nall\nproofs 1\nopens 1\n", want)
	prints(t, want, begin+"opens 1 0 0 1\nproofs 0 1\nshow\nall\n")
	want.Opens = nil
	prints(t, want, begin+"proofs 0 1\nshow\nall\n")
	want.Proofs = []bool{}
	prints(t, want, begin+"show\nall\n")
	want.Opens = []bool{false}
	prints(t, want, begin+"opens 0\nshow\nall\n")
}

// P27.1: where no line counts there is nothing.
func TestNone(t *testing.T) {
	for _, text := range []string{"", "\n", "\n\n\n", " ", "  \n ", "#", "# pool", "#\n\n#pool 2 " + seven + "\n", again("\n", 65536)} {
		refuses(t, text, 0, api.ErrNone)
	}
}

// P27.1: the pool's line comes first; ErrForm of its words, of the number; then
// ErrRange of that, and then what layer 13 says.
func TestPoolLineErrors(t *testing.T) {
	for _, x := range []struct {
		line string
		want api.Errno
	}{
		{"pool", api.ErrForm},
		{"pool 2", api.ErrForm},
		{"pool " + seven, api.ErrForm},
		{"pool 2 2 " + seven, api.ErrForm},
		{"pool 2 " + seven + " x=1", api.ErrForm},
		{"pool 2 " + strings.TrimSuffix(seven, " variance=0.25"), api.ErrForm},
		{"pool " + overText + " " + seven + " x=1", api.ErrForm},
		{"Pool 2 " + seven, api.ErrForm},
		{"pools 2 " + seven, api.ErrForm},
		{"2 " + seven, api.ErrForm},
		{"get 1 5", api.ErrForm},
		{"opens 1", api.ErrForm},
		{"show", api.ErrForm},
		{"x", api.ErrForm},
		{"pool -1 " + seven, api.ErrForm},
		{"pool +2 " + seven, api.ErrForm},
		{"pool 02 " + seven, api.ErrForm},
		{"pool 00 " + seven, api.ErrForm},
		{"pool 2.0 " + seven, api.ErrForm},
		{"pool x " + seven, api.ErrForm},
		{"pool 0x2 " + seven, api.ErrForm},
		{"pool 1_0 " + seven, api.ErrForm},
		{"pool \u0662 " + seven, api.ErrForm},
		{"pool " + overText + " " + seven, api.ErrRange},
		{"pool 18446744073709551616 " + seven, api.ErrRange},
		{"pool " + again("9", 400) + " " + seven, api.ErrRange},
		{"pool " + overText + " max=x min=1 idle=100 life=1000 keep=50 leak=200 variance=0.25", api.ErrRange},
		{"pool x max=0 min=1 idle=100 life=1000 keep=50 leak=200 variance=0.25", api.ErrForm},
		{"pool 2 max=0 min=1 idle=100 life=1000 keep=50 leak=200 variance=0.25", api.ErrRange},
		{"pool 2 max=4 min=5 idle=100 life=1000 keep=50 leak=200 variance=0.25", api.ErrRange},
		{"pool 2 max=0 min=1 idle=100 life=1000 keep=50 leak=200 variance=nan", api.ErrForm},
		{"pool 2 max=4 min=1 idle=100 life=1000 keep=50 leak=200 variance=1.5", api.ErrRange},
		{"pool 2 max=4 min=1 idle=100 life=1000 keep=50 leak=200 variance=1e-3", api.ErrForm},
		{"pool 2 min=1 max=4 idle=100 life=1000 keep=50 leak=200 variance=0.25", api.ErrForm},
		{"pool 2 max=04 min=1 idle=100 life=1000 keep=50 leak=200 variance=0.25", api.ErrForm},
		{"pool 2 max=4 min=1 idle=" + overText + " life=1000 keep=50 leak=200 variance=0.25", api.ErrRange},
	} {
		refuses(t, x.line, 1, x.want)
		refuses(t, "\n# so\n"+x.line+"\nshow\nx", 3, x.want)
	}
}

// P27.1: ErrForm of another first word, or another number of words, whatever
// these words are.
func TestOtherLines(t *testing.T) {
	for _, line := range []string{
		"pool 2 " + seven, "pool", "x", "Get 1 5", "gets 1 5", "ge 1 5", "5", "get# 1 5", "0", "None",
		"get", "get 1", "get 1 5 5", "put", "put 1", "put 1 5 5", "evict", "evict 1", "evict 1 5 5",
		"close", "close 1 1", "house", "house 1 1", "step", "step 1 1", "run", "run 1 1",
		"pick", "tick", "tick 1 1", "show 1", "all 1", "opens", "proofs",
		"get 9", "get 9 9 9", "close 9 9", "step x x", "run 10001 1", "show x", "x 9 9",
	} {
		refuses(t, begin+line, 2, api.ErrForm)
		refuses(t, begin+"\nshow\n"+line+"\nget 9 9", 4, api.ErrForm)
	}
}

// numbers: where a number may stand, and the greatest one there.
var numbers = []struct {
	ahead, behind, least, most string
}{
	{"get ", " 5", "0", "7"}, {"get 1 ", "", "0", topText},
	{"put ", " 5", "0", "7"}, {"put 1 ", "", "0", topText},
	{"evict ", " 5", "0", "7"}, {"evict 1 ", "", "0", topText},
	{"close ", "", "0", "7"}, {"house ", "", "0", "7"}, {"step ", "", "0", "7"},
	{"run ", "", "0", "10000"}, {"tick ", "", "0", topText},
	{"pick ", "", "0", "1000"}, {"pick 0 1 ", " 2", "0", "1000"}, {"pick 0 1 2 ", "", "0", "1000"},
}

// greater: each number that stands where that is the greatest, by one.
var greater = map[string]string{"7": "8", "10000": "10001", "1000": "1001", topText: overText}

// P27.1: ErrForm of what is no number in digits without noughts ahead, ErrRange
// of what is too great.
func TestNumbers(t *testing.T) {
	for _, x := range numbers {
		for _, n := range []string{x.least, x.most} {
			if _, line, e := Parse(begin + x.ahead + n + x.behind); line != 0 || e != api.OK {
				t.Errorf("%s%s%s: %d, %d", x.ahead, n, x.behind, line, e)
			}
		}
		for _, n := range []string{"x", "-1", "+1", "-0", "00", "01", "1.0", "1e0", "0x1", "1_0", "1x", "x1", "\u0661", "1\u0301", "''", "0" + overText, "#"} {
			refuses(t, begin+x.ahead+n+x.behind, 2, api.ErrForm)
		}
		for _, n := range []string{greater[x.most], "9999999999999999999", "18446744073709551615", "18446744073709551616", "18446744073709551617", "1" + again("0", 300)} {
			refuses(t, begin+x.ahead+n+x.behind, 2, api.ErrRange)
		}
	}
}

// P27.1: openings and proofs are 0 or 1; anything else has ErrForm.
func TestBits(t *testing.T) {
	for _, word := range []string{"opens ", "proofs "} {
		for _, b := range []string{"2", "00", "01", "10", "-1", "+1", "x", "true", "0x0", again("9", 30), "0,1", "1#"} {
			for _, line := range []string{b, "0 1 " + b, b + " 0", "1 " + b + " x"} {
				refuses(t, begin+word+line, 2, api.ErrForm)
			}
		}
	}
}

// P27.1: of a line's words the first wrong one's error is told.
func TestWordByWord(t *testing.T) {
	for line, want := range map[string]api.Errno{
		"get 8 x":                           api.ErrRange,
		"get x " + overText:                 api.ErrForm,
		"get 8 " + overText:                 api.ErrRange,
		"get x x":                           api.ErrForm,
		"get 7 x":                           api.ErrForm,
		"put 8 x":                           api.ErrRange,
		"evict 8 x":                         api.ErrRange,
		"pick 1001 x":                       api.ErrRange,
		"pick x 1001":                       api.ErrForm,
		"pick 0 1 1001 5 x":                 api.ErrRange,
		"pick 0 1 5 x 1001":                 api.ErrForm,
		"get 8 x x":                         api.ErrForm,
		"gets 8 5":                          api.ErrForm,
		"pick 1001" + again(" 0", 300):      api.ErrRange,
		"pick" + again(" 0", 300) + " x":    api.ErrForm,
		"pick" + again(" 0", 300) + " 1001": api.ErrRange,
		"opens" + again(" 0", 300) + " 2":   api.ErrForm,
		"proofs" + again(" 0", 300) + " 2":  api.ErrForm,
		"pick" + again(" 0", 201):           api.ErrMany,
		"pick" + again(" 1000", 5000):       api.ErrMany,
		"opens" + again(" 1", 201):          api.ErrMany,
		"proofs" + again(" 0", 201):         api.ErrMany,
	} {
		refuses(t, begin+line, 2, want)
	}
}

// P27.1: 200 openings, 200 proofs, 200 picks in one, and 1000 commands; of more
// the line has ErrMany that has one too many.
func TestMany(t *testing.T) {
	want := of()
	want.Opens, want.Proofs = make([]bool, 200), make([]bool, 200)
	full := begin + "opens" + again(" 0", 150) + "\nproofs" + again(" 0", 200) + "\nopens" + again(" 0", 50) + "\n"
	parses(t, full, want)
	refuses(t, full+"opens 1\nx", 5, api.ErrMany)
	refuses(t, full+"proofs 1\nx", 5, api.ErrMany)
	refuses(t, full+"opens x", 5, api.ErrForm)
	refuses(t, full+"proofs", 5, api.ErrForm)
	refuses(t, begin+again("opens 1\n", 200)+"\nopens 0", 203, api.ErrMany)
	refuses(t, begin+"opens"+again(" 1", 199)+"\nopens 1 1", 3, api.ErrMany)

	parses(t, begin+"pick"+again(" 3", 200), of(Command{Line: 2, Op: 7, Picks: slices.Repeat([]int{3}, 200)}))

	commands := make([]Command, 1000)
	for i := range commands {
		commands[i] = Command{Line: i + 2, Op: 9}
	}
	parses(t, begin+again("show\n", 1000), of(commands...))
	refuses(t, begin+again("show\n", 1000)+"\nall", 1003, api.ErrMany)
	refuses(t, begin+again("show\n", 1000)+"pick 1 2", 1002, api.ErrMany)
	refuses(t, begin+again("show\n", 1000)+"get 1 x", 1002, api.ErrForm)
	refuses(t, begin+again("show\n", 1000)+"get 8 1", 1002, api.ErrRange)
	refuses(t, begin+again("show\n", 1000)+"x", 1002, api.ErrForm)
	refuses(t, begin+again("show\n", 1001)+"x", 1002, api.ErrMany)
	s := of(commands...)
	s.Opens = []bool{true}
	parses(t, begin+again("show\n", 1000)+"opens 1\n# so", s)
}

// P27.1: of a text of more than 65536 bytes it is ErrLong, whatever it says.
func TestLong(t *testing.T) {
	room := 65536 - len(begin)
	parses(t, begin+again(" ", room), of())
	parses(t, begin+again("\n", room), of())
	parses(t, begin+again("#", room), of())
	for _, text := range []string{begin + again(" ", room+1), begin + again("\n", room+1), begin + again("#", room+1), again("\n", 65537), "x" + again("x", 65536), again("pool\n", 100000)} {
		refuses(t, text, 0, api.ErrLong)
	}
	refuses(t, again("x", 65536), 1, api.ErrForm)
	refuses(t, again("\n", 65535)+"x", 65536, api.ErrForm)
	refuses(t, begin+again("\u00e9", 40000), 0, api.ErrLong) // bytes, not runes
}

// P27.1: of several wrong lines the first is told.
func TestFirstWrongLine(t *testing.T) {
	refuses(t, begin+"get 8 5\nget x 5\nx", 2, api.ErrRange)
	refuses(t, begin+"show\n\n#\nx\nget 8 5", 5, api.ErrForm)
	refuses(t, "get 8 5\n"+begin, 1, api.ErrForm)
	refuses(t, "pool 2\n"+begin+"x", 1, api.ErrForm)
	refuses(t, begin+begin, 2, api.ErrForm)
}

// P27.1: what is answered is new memory each time, and no two lists share any.
func TestOwnMemory(t *testing.T) {
	text := begin + "opens 0 0\nproofs 0 0\npick 1 2\npick 3 4"
	a, _, _ := Parse(text)
	was := tell(a)
	b, _, _ := Parse(text)
	b.Opens[0], b.Commands[0].Picks[0], b.Commands[1].N = true, 99, 99
	_ = append(b.Opens, true, true)
	_ = append(b.Commands[0].Picks, 98, 98)
	is(t, "the other one", tell(a), was)
	is(t, "its proofs", fmt.Sprint(b.Proofs), "[false false]")
	is(t, "its second picks", fmt.Sprint(b.Commands[1].Picks), "[3 4]")
}

// P27.2: what a line doesn't have plays no part.
func TestPlaysNoPart(t *testing.T) {
	far := slices.Repeat([]int{-1}, 300)
	for _, x := range []struct {
		c    Command
		line string
	}{
		{Command{-5, 0, 1, 5, far}, "get 1 5"},
		{Command{math.MaxInt, 1, 1, 5, far}, "put 1 5"},
		{Command{0, 2, 1, 5, far}, "evict 1 5"},
		{Command{0, 3, 1, math.MaxUint64, far}, "close 1"},
		{Command{0, 4, 1, math.MaxUint64, far}, "house 1"},
		{Command{0, 5, 1, math.MaxUint64, far}, "step 1"},
		{Command{0, 6, -1, 5, far}, "run 5"},
		{Command{0, 7, 8, math.MaxUint64, []int{1}}, "pick 1"},
		{Command{0, 8, math.MinInt, 5, far}, "tick 5"},
		{Command{0, 9, 8, math.MaxUint64, far}, "show"},
		{Command{0, 10, 8, math.MaxUint64, far}, "all"},
	} {
		prints(t, of(x.c), begin+x.line+"\n")
	}
}

// P27.2: a T, an N, or picks that may not be.
func TestPrintCommandErrors(t *testing.T) {
	for op := range uint8(6) {
		for _, thread := range []int{-1, 8, math.MinInt, math.MaxInt} {
			unprinted(t, "a thread", of(Command{Op: op, Thread: thread}), api.ErrRange)
		}
	}
	for op, most := range map[uint8]uint64{0: top, 1: top, 2: top, 6: 10000, 8: top} {
		for _, n := range []uint64{most + 1, 1 << 63, math.MaxUint64} {
			unprinted(t, "a number", of(Command{Op: op, N: n}), api.ErrRange)
		}
	}
	unprinted(t, "no picks", of(Command{Op: 7}), api.ErrForm)
	unprinted(t, "no picks", of(Command{Op: 7, Picks: []int{}}), api.ErrForm)
	for _, n := range []int{-1, 1001, math.MinInt, math.MaxInt} {
		unprinted(t, "a pick", of(Command{Op: 7, Picks: []int{n}}), api.ErrRange)
		unprinted(t, "a pick", of(Command{Op: 7, Picks: []int{0, 1000, n}}), api.ErrRange)
	}
	for op := 11; op <= 255; op++ {
		unprinted(t, "an op", of(Command{Op: uint8(op)}), api.ErrForm)
	}
}

// changed: a script that is printed, changed.
func changed(f func(s *Script)) Script {
	s := of(Command{Op: 9}, Command{Op: 7, Picks: []int{1}})
	f(&s)
	return s
}

// What may be wrong with a script, in the order in which it is looked for; one
// that has several of them has the first one's error.
var faults = []struct {
	what string
	want api.Errno
	do   func(s *Script)
}{
	{"openings", api.ErrMany, func(s *Script) { s.Opens = make([]bool, 201) }},
	{"proofs", api.ErrMany, func(s *Script) { s.Proofs = make([]bool, 201) }},
	{"picks", api.ErrMany, func(s *Script) {
		s.Commands = append(s.Commands, Command{Op: 7, Picks: make([]int, 201)})
	}},
	{"threads", api.ErrRange, func(s *Script) { s.Threads = -1 }},
	{"no number", api.ErrNaN, func(s *Script) { s.Conf.Variance = math.NaN() }},
	{"an op", api.ErrForm, func(s *Script) { s.Commands = append(s.Commands, Command{Op: 11, Picks: make([]int, 500)}) }},
	{"a thread", api.ErrRange, func(s *Script) { s.Commands = append(s.Commands, Command{Op: 5, Thread: 8}) }},
	{"no picks", api.ErrForm, func(s *Script) { s.Commands = append(s.Commands, Command{Op: 7}) }},
	{"long", api.ErrLong, func(s *Script) {
		long := Command{Op: 7, Picks: slices.Repeat([]int{1000}, 200)}
		s.Commands = append(s.Commands, slices.Repeat([]Command{long}, 70)...)
	}},
}

// P27.2: the first error is told, in the order in which they are named.
func TestPrintOrder(t *testing.T) {
	for i, x := range faults {
		unprinted(t, x.what, changed(x.do), x.want)
		for _, y := range faults[i+1:] {
			both := changed(func(s *Script) { x.do(s); y.do(s) })
			unprinted(t, x.what+", "+y.what, both, x.want)
		}
	}
	least := changed(func(s *Script) { s.Conf.Max, s.Conf.Variance = 0, math.NaN() })
	unprinted(t, "the configuration's own order", least, api.ErrRange)
	unprinted(t, "the zero one", Script{}, api.ErrRange)
}

// P27.2: of commands the first wrong one's error is told.
func TestPrintCommandByCommand(t *testing.T) {
	wide, none, other := Command{Op: 0, Thread: 9, N: math.MaxUint64}, Command{Op: 7}, Command{Op: 200, Thread: 9}
	unprinted(t, "range first", of(Command{Op: 9}, wide, none, other), api.ErrRange)
	unprinted(t, "no picks first", of(none, wide), api.ErrForm)
	unprinted(t, "op first", of(other, wide), api.ErrForm)
	unprinted(t, "too many behind it", of(wide, none, Command{Op: 7, Picks: make([]int, 201)}), api.ErrMany)
}

// P27.2: as many of each as there may be are printed, more are too many.
func TestPrintMany(t *testing.T) {
	s := of(slices.Repeat([]Command{{Op: 9}}, 1000)...)
	s.Opens, s.Proofs = make([]bool, 200), make([]bool, 200)
	prints(t, s, begin+"opens"+again(" 0", 200)+"\nproofs"+again(" 0", 200)+"\n"+again("show\n", 1000))
	s.Commands = append(s.Commands, Command{Op: 9})
	unprinted(t, "1001", s, api.ErrMany)
	prints(t, of(Command{Op: 7, Picks: make([]int, 200)}), begin+"pick"+again(" 0", 200)+"\n")
	unprinted(t, "a lot", of(make([]Command, 100000)...), api.ErrMany)
}

// P27.2: Threads is from 0 to 2^60.
func TestPrintThreads(t *testing.T) {
	for _, n := range []int{-1, math.MinInt, top + 1, math.MaxInt} {
		unprinted(t, "threads", changed(func(s *Script) { s.Threads = n }), api.ErrRange)
	}
}

// fitting: a script whose text has so many bytes, and that text.
func fitting(bytes int) (Script, string) {
	s, text := of(), begin
	add := func(c Command, line string) {
		s.Commands = append(s.Commands, c)
		text += line + "\n"
	}
	ticks := func(digits int) { // a line of 6 bytes more
		n, line := uint64(1), "1"
		for range digits - 1 {
			n, line = n*10, line+"0"
		}
		add(Command{Op: 8, N: n}, "tick "+line)
	}
	for bytes-len(text) > 1100 {
		add(Command{Op: 7, Picks: slices.Repeat([]int{1000}, 200)}, "pick"+again(" 1000", 200))
	}
	for bytes-len(text) > 24 {
		ticks(10)
	}
	ticks(bytes - len(text) - 6)
	return s, text
}

// lined: as it is read from its text, if it has nothing that opens or proves.
func lined(s Script) Script {
	s.Commands = slices.Clone(s.Commands)
	for i := range s.Commands {
		s.Commands[i].Line = i + 2
	}
	return s
}

// P27.2: of a text of more than 65536 bytes it is ErrLong.
func TestPrintLong(t *testing.T) {
	for pad := range 8 {
		s, text := fitting(65536 - pad)
		is(t, "so long", len(text), 65536-pad)
		prints(t, s, text)
		parses(t, text, lined(s))
	}
	for _, n := range []int{65537, 65538, 70000} {
		s, text := fitting(n)
		is(t, "so long", len(text), n)
		unprinted(t, "long", s, api.ErrLong)
		refuses(t, text, 0, api.ErrLong)
	}
}
