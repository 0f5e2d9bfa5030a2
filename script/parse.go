package script

import (
	"slices"
	"strconv"
	"strings"

	"hackney/api"
	"hackney/conf"
)

// rule tells what a word may not have: its first error, or OK.
type rule func(word string) api.Errno

// upTo: of a number that is no greater than that.
func upTo(most uint64) rule {
	return func(word string) api.Errno {
		switch {
		case !isNumber(word):
			return api.ErrForm
		case number(word) > most:
			return api.ErrRange
		}
		return api.OK
	}
}

// bit: of what is 0 or 1.
func bit() rule {
	return func(word string) api.Errno {
		if word != "0" && word != "1" {
			return api.ErrForm
		}
		return api.OK
	}
}

// isNumber: is it digits, without noughts ahead?
func isNumber(word string) bool {
	digits := word != "" && strings.Trim(word, "0123456789") == ""
	return digits && (word == "0" || word[0] != '0')
}

// number: what digits say. Of what 64 bits can't hold it is their greatest
// number, which is above all bounds, too.
func number(word string) uint64 {
	n, _ := strconv.ParseUint(word, 10, 64)
	return n
}

// first: the first error of words, each by its rule; OK.
func first(words []string, rules []rule) api.Errno {
	for i, wrong := range rules {
		if e := wrong(words[i]); e != api.OK {
			return e
		}
	}
	return api.OK
}

// each: so many times the same rule, but once at least.
func each(r rule, times int) []rule {
	return slices.Repeat([]rule{r}, max(1, times))
}

// rules: of the words behind the first one, if these are so many; false, where
// there may not be so many.
func (x shape) rules(words int) ([]rule, bool) {
	var out []rule
	if x.thread {
		out = append(out, upTo(mostThread))
	}
	if x.number {
		out = append(out, upTo(x.most))
	}
	if x.picks {
		out = append(out, each(upTo(mostPick), words)...)
	}
	return out, len(out) == words
}

// command: what is written behind the first word, where all rules hold.
func (x shape) command(words []string) Command {
	var c Command
	if x.thread {
		c.Thread = int(number(words[0]))
		words = words[1:]
	}
	if x.number {
		c.N = number(words[0])
	}
	if x.picks {
		for _, word := range words {
			c.Picks = append(c.Picks, int(number(word)))
		}
	}
	return c
}

// reader is a script of which some lines were read.
type reader struct {
	script Script
	begun  bool // the pool's line was
}

// Parse: a script.
func Parse(text string) (Script, int, api.Errno) {
	if len(text) > mostBytes {
		return Script{}, 0, api.ErrLong
	}
	var r reader
	for i, line := range strings.Split(text, "\n") {
		if e := r.read(i+1, wordsOf(line)); e != api.OK {
			return Script{}, i + 1, e
		}
	}
	if !r.begun {
		return Script{}, 0, api.ErrNone
	}
	return r.script, 0, api.OK
}

// wordsOf: of a line. Blanks alone stand between words: whatever else there is
// is a part of one.
func wordsOf(line string) []string {
	return strings.FieldsFunc(line, func(c rune) bool { return c == ' ' })
}

// read: a line of that number.
func (r *reader) read(line int, words []string) api.Errno {
	if len(words) == 0 || strings.HasPrefix(words[0], remark) {
		return api.OK
	}
	if !r.begun {
		r.begun = true
		return r.pool(words)
	}
	switch words[0] {
	case opensWord:
		return goesOn(&r.script.Opens, words[1:])
	case proofsWord:
		return goesOn(&r.script.Proofs, words[1:])
	}
	return r.command(line, words)
}

// pool: the line with which a script begins.
func (r *reader) pool(words []string) api.Errno {
	const ahead, confWords = 2, 7
	if words[0] != poolWord || len(words) != ahead+confWords {
		return api.ErrForm
	}
	if e := upTo(api.MaxTick)(words[1]); e != api.OK {
		return e
	}
	c, e := conf.Parse(strings.Join(words[ahead:], " "))
	if e != api.OK {
		return e
	}
	r.script.Threads, r.script.Conf = int(number(words[1])), c
	return api.OK
}

// goesOn: the factory's script goes on with these.
func goesOn(well *[]bool, words []string) api.Errno {
	if len(words) == 0 {
		return api.ErrForm
	}
	if e := first(words, each(bit(), len(words))); e != api.OK {
		return e
	}
	if len(*well)+len(words) > mostWell {
		return api.ErrMany
	}
	for _, word := range words {
		*well = append(*well, word == "1")
	}
	return api.OK
}

// command: any other line.
func (r *reader) command(line int, words []string) api.Errno {
	op, x, ok := named(words[0])
	if !ok {
		return api.ErrForm
	}
	rest := words[1:]
	rules, ok := x.rules(len(rest))
	if !ok {
		return api.ErrForm
	}
	if e := first(rest, rules); e != api.OK {
		return e
	}
	c := x.command(rest)
	if len(r.script.Commands) >= mostCommands || len(c.Picks) > mostPicks {
		return api.ErrMany
	}
	c.Line, c.Op = line, op
	r.script.Commands = append(r.script.Commands, c)
	return api.OK
}
