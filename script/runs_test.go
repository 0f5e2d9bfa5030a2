package script

import (
	"math"
	"math/rand"
	"slices"
	"strings"
	"testing"

	"hackney/api"
	"hackney/conf"
)

// anyNumber: up to that, often at an edge.
func anyNumber(r *rand.Rand, most uint64) uint64 {
	switch r.Intn(6) {
	case 0:
		return 0
	case 1:
		return most
	case 2:
		return most - uint64(r.Intn(int(min(most, 9)+1)))
	}
	return uint64(r.Int63n(int64(most) + 1))
}

// anyCommand: one that may be printed, with nothing in it that its line
// doesn't have.
func anyCommand(r *rand.Rand) Command {
	c := Command{Op: uint8(r.Intn(11))}
	if c.Op <= 5 {
		c.Thread = r.Intn(8)
	}
	switch c.Op {
	case 0, 1, 2, 8:
		c.N = anyNumber(r, top)
	case 6:
		c.N = anyNumber(r, 10000)
	case 7:
		for range 1 + r.Intn(6) {
			c.Picks = append(c.Picks, int(anyNumber(r, 1000)))
		}
	}
	return c
}

// anyBits: some, or none.
func anyBits(r *rand.Rand) []bool {
	var out []bool
	for range r.Intn(3) * r.Intn(5) {
		out = append(out, r.Intn(2) > 0)
	}
	return out
}

// anyScript: one that may be printed, and whose variance has no exponent.
func anyScript(r *rand.Rand) Script {
	most := 1 + r.Intn(16)
	s := Script{Threads: int(anyNumber(r, top)), Opens: anyBits(r), Proofs: anyBits(r)}
	s.Conf = conf.Conf{Max: most, MinIdle: r.Intn(most + 1), Variance: float64(r.Intn(1001)) / 1000}
	for _, ticks := range []*uint64{&s.Conf.Idle, &s.Conf.Life, &s.Conf.Keep, &s.Conf.Leak} {
		*ticks = anyNumber(r, top)
	}
	for range r.Intn(12) {
		s.Commands = append(s.Commands, anyCommand(r))
	}
	return s
}

// unlined: without the numbers of lines.
func unlined(s Script) Script {
	s.Commands = slices.Clone(s.Commands)
	for i := range s.Commands {
		s.Commands[i].Line = 0
	}
	return s
}

// P27.3: what is printed is parsed as it was, but for Line; and what it is
// parsed as is printed so.
func TestPrintedAndParsed(t *testing.T) {
	r := rand.New(rand.NewSource(27))
	for range 3000 {
		s := anyScript(r)
		text, e := Print(s)
		is(t, "Print", e, api.OK)
		got, line, e := Parse(text)
		if line != 0 || e != api.OK || tell(unlined(got)) != tell(s) {
			t.Fatalf("%q: %s, %d, %d, wanted %s", text, tell(got), line, e, tell(s))
		}
		prints(t, got, text)
		for i := range got.Commands {
			got.Commands[i].Line = r.Int() - r.Int()
		}
		prints(t, got, text)
	}
}

// P27.3: what plays no part isn't printed, so it is parsed as nought; a
// variance with an exponent is printed, and isn't parsed.
func TestPrintedOtherwise(t *testing.T) {
	s := of(Command{9, 9, 8, 7, []int{6}}, Command{9, 7, 8, 7, []int{6}})
	text, _ := Print(s)
	parses(t, text, of(Command{Line: 2, Op: 9}, Command{Line: 3, Op: 7, Picks: []int{6}}))
	s.Conf.Variance = 1e-10
	text, e := Print(s)
	is(t, "Print", e, api.OK)
	is(t, "with an exponent", strings.Contains(text, "variance=1e-10\n"), true)
	refuses(t, text, 1, api.ErrForm)
	s.Conf.Variance = math.Copysign(0, -1)
	text, _ = Print(s)
	is(t, "without a sign", strings.Contains(text, "variance=0\n"), true)
}

// loosely: the text, with blanks, remarks and lines without words between; and
// of each line the number that it has now.
func loosely(r *rand.Rand, text string) (string, []int) {
	var out strings.Builder
	var at []int
	line := 1
	blanks := func(least int) string { return again(" ", least+r.Intn(3)*r.Intn(3)) }
	for _, x := range strings.Split(strings.TrimSuffix(text, "\n"), "\n") {
		for r.Intn(3) == 0 {
			out.WriteString([]string{"", " ", "# so", "  #pool", "#get 9 9"}[r.Intn(5)] + "\n")
			line++
		}
		out.WriteString(blanks(0))
		for _, word := range strings.Split(x, " ") {
			out.WriteString(word + blanks(1))
		}
		out.WriteString("\n")
		at = append(at, line)
		line++
	}
	return out.String(), at
}

// wrongLines: lines that may stand nowhere behind the pool's, and their errors.
var wrongLines = []struct {
	line string
	want api.Errno
}{
	{"x", api.ErrForm}, {"pool 2 " + seven, api.ErrForm}, {"get 1", api.ErrForm}, {"show 1", api.ErrForm},
	{"opens", api.ErrForm}, {"proofs 2", api.ErrForm}, {"pick", api.ErrForm}, {"put x 1", api.ErrForm},
	{"get 8 1", api.ErrRange}, {"run 10001", api.ErrRange}, {"tick " + overText, api.ErrRange},
	{"pick 1 1001", api.ErrRange}, {"step 8", api.ErrRange}, {"close 01", api.ErrForm},
	{"opens" + again(" 1", 201), api.ErrMany}, {"pick" + again(" 1", 201), api.ErrMany},
}

// P27.1: however it is written, it is the same script, each command with the
// number of its line; and of wrong lines, wherever they stand, the first is
// told.
func TestLoosely(t *testing.T) {
	r := rand.New(rand.NewSource(271))
	for range 1500 {
		s := anyScript(r)
		text, _ := Print(s)
		loose, at := loosely(r, text)
		want := unlined(s)
		for i := range want.Commands {
			want.Commands[i].Line = at[len(at)-len(want.Commands)+i]
		}
		parses(t, loose, want)

		lines := strings.SplitAfter(loose, "\n")
		bad := wrongLines[r.Intn(len(wrongLines))]
		place := at[0] + r.Intn(len(lines)-at[0]) // behind the pool's line
		lines = slices.Insert(lines, place, bad.line+"\n")
		if r.Intn(2) == 0 {
			more := wrongLines[r.Intn(len(wrongLines))].line + "\n"
			lines = slices.Insert(lines, place+1+r.Intn(len(lines)-place), more)
		}
		refuses(t, strings.Join(lines, ""), place+1, bad.want)
	}
}

// P1, P27.1: whatever the text is, Parse tells a script, which is printed and
// parsed again as it is; or the zero one, and an error of a line that there is.
func TestAnyText(t *testing.T) {
	r := rand.New(rand.NewSource(1))
	words := []string{
		"pool", "2", seven, "get", "put", "evict", "close", "house", "step", "run", "pick", "tick", "show", "all",
		"opens", "proofs", "0", "1", "7", "8", "00", "-1", "1000", "1001", "10000", topText, overText, "#", "x", "max=4", "\x00", "\xff", "\t",
	}
	seen := map[api.Errno]int{}
	for range 60000 {
		var text strings.Builder
		if r.Intn(8) > 0 {
			text.WriteString(begin)
		}
		for range r.Intn(9) {
			text.WriteString(words[r.Intn(len(words))] + []string{" ", " ", "\n", "", "  "}[r.Intn(5)])
		}
		s, line, e := Parse(text.String())
		seen[e]++
		if e != api.OK {
			refuses(t, text.String(), line, e)
			if line > strings.Count(text.String(), "\n")+1 || (line == 0) != (e == api.ErrNone) {
				t.Errorf("%q: %d, %d", text.String(), line, e)
			}
			continue
		}
		again, f := Print(s)
		is(t, "Print", f, api.OK)
		got, _, _ := Parse(again)
		is(t, "parsed again", tell(unlined(got)), tell(unlined(s)))
	}
	for _, e := range []api.Errno{api.OK, api.ErrForm, api.ErrRange, api.ErrNone} {
		if seen[e] == 0 {
			t.Errorf("none had %d", e)
		}
	}
}

// P1, P27.2: whatever the script is, Print tells a text that is parsed, or
// none and an error; and the script is as it was, spare room included.
func TestAnyScript(t *testing.T) {
	r := rand.New(rand.NewSource(272))
	odd := []uint64{0, 1, 7, 8, 10000, 10001, top, top + 1, math.MaxUint64}
	seen := map[api.Errno]int{}
	for range 5000 {
		s := anyScript(r)
		for range r.Intn(3) {
			c := anyCommand(r)
			c.Op, c.Thread, c.N = uint8(r.Intn(13)), r.Intn(11)-1, odd[r.Intn(len(odd))]
			c.Picks = append(make([]int, 0, 9), r.Intn(1004)-2)[:r.Intn(2)]
			s.Commands = append(s.Commands, c)
		}
		room := s.Commands[:cap(s.Commands)]
		was, spare := tell(s), tell(of(room...))
		text, e := Print(s)
		seen[e]++
		is(t, "the script", tell(s), was)
		is(t, "its room", tell(of(room...)), spare)
		if e != api.OK {
			is(t, "none", text, "")
			continue
		}
		if _, line, e := Parse(text); line != 0 || e != api.OK {
			t.Errorf("%q: %d, %d", text, line, e)
		}
	}
	for _, e := range []api.Errno{api.OK, api.ErrForm, api.ErrRange} {
		if seen[e] == 0 {
			t.Errorf("none had %d", e)
		}
	}
}
