package script

import (
	"slices"
	"strconv"
	"strings"

	"hackney/api"
)

// Print: a script.
func Print(s Script) (string, api.Errno) {
	if tooMany(s) {
		return "", api.ErrMany
	}
	begin, e := beginning(s)
	if e != api.OK {
		return "", e
	}
	lines := [][]string{begin}
	lines = append(lines, written(opensWord, s.Opens)...)
	lines = append(lines, written(proofsWord, s.Proofs)...)
	for _, c := range s.Commands {
		words, e := wordsFor(c)
		if e != api.OK {
			return "", e
		}
		lines = append(lines, words)
	}
	text := join(lines)
	if len(text) > mostBytes {
		return "", api.ErrLong
	}
	return text, api.OK
}

// tooMany: are there too many of anything?
func tooMany(s Script) bool {
	return max(len(s.Opens), len(s.Proofs)) > mostWell ||
		len(s.Commands) > mostCommands ||
		slices.ContainsFunc(s.Commands, func(c Command) bool {
			x, _ := shapeOf(c.Op)
			return x.picks && len(c.Picks) > mostPicks
		})
}

// beginning: the words of the pool's line.
func beginning(s Script) ([]string, api.Errno) {
	if s.Threads < 0 || uint64(s.Threads) > api.MaxTick {
		return nil, api.ErrRange
	}
	text, e := s.Conf.Text()
	if e != api.OK {
		return nil, e
	}
	return []string{poolWord, strconv.Itoa(s.Threads), text}, api.OK
}

// written: the line of what goes well, or not, if there is any.
func written(word string, well []bool) [][]string {
	if len(well) == 0 {
		return nil
	}
	line := []string{word}
	for _, yes := range well {
		digit := "0"
		if yes {
			digit = "1"
		}
		line = append(line, digit)
	}
	return [][]string{line}
}

// wordsFor: the words of a command's line.
func wordsFor(c Command) ([]string, api.Errno) {
	x, ok := shapeOf(c.Op)
	if !ok {
		return nil, api.ErrForm
	}
	if e := x.wrong(c); e != api.OK {
		return nil, e
	}
	return x.words(c), api.OK
}

// wrong: what is wrong with a command, of what its line has.
func (x shape) wrong(c Command) api.Errno {
	outside := func(n int) bool { return n < 0 || n > mostPick }
	switch {
	case x.thread && (c.Thread < 0 || c.Thread > mostThread):
		return api.ErrRange
	case x.number && c.N > x.most:
		return api.ErrRange
	case x.picks && len(c.Picks) == 0:
		return api.ErrForm
	case x.picks && slices.ContainsFunc(c.Picks, outside):
		return api.ErrRange
	}
	return api.OK
}

// words: of a command, of what its line has.
func (x shape) words(c Command) []string {
	out := []string{x.word}
	if x.thread {
		out = append(out, strconv.Itoa(c.Thread))
	}
	if x.number {
		out = append(out, strconv.FormatUint(c.N, 10))
	}
	if x.picks {
		for _, n := range c.Picks {
			out = append(out, strconv.Itoa(n))
		}
	}
	return out
}

// join: lines, as a text.
func join(lines [][]string) string {
	var text strings.Builder
	for _, words := range lines {
		text.WriteString(strings.Join(words, " ") + "\n")
	}
	return text.String()
}
