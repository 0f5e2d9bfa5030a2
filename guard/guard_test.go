package guard

import (
	"errors"
	"math"
	"runtime"
	"slices"
	"strings"
	"testing"

	"hackney/api"
)

// caught: with what something panicked, by a recover of the test's own.
func caught(f func()) (value any, panicked bool) {
	panicked = true
	defer func() {
		if panicked {
			value = recover()
		}
	}()
	f()
	return nil, false
}

// panics: something that panics with a value.
func panics(value any) func() { return func() { panic(value) } }

// fails: something that panics as Must does.
func fails(e api.Errno) func() { return func() { Must(e) } }

// like: as a Fail, but of another type.
type like struct{ Err api.Errno }

// within: what a Fail is a part of.
type within struct{ Fail }

// tracks: it writes down who was called.
type tracks struct{ names []string }

// leaves: something that is written down when it is called, and then goes on.
func (l *tracks) leaves(name string, then func()) func() {
	return func() {
		l.names = append(l.names, name)
		if then != nil {
			then()
		}
	}
}

// are: those were called, each once for each time that it is named.
func (l *tracks) are(t *testing.T, what, want string) {
	t.Helper()
	if got := strings.Join(l.names, " "); got != want {
		t.Errorf("%s: %q were called, wanted %q", what, got, want)
	}
}

// P7.1: it panics with a Fail of the number, but of OK.
func TestMust(t *testing.T) {
	for e := api.ErrNil; e <= api.ErrPanic; e++ {
		if value, ok := caught(func() { Must(e) }); !ok || value != (Fail{e}) {
			t.Errorf("Must(%d): %v, %v", e, value, ok)
		}
	}
	for _, e := range []api.Errno{-1, 19, 1000, math.MaxInt, math.MinInt} {
		if value, ok := caught(func() { Must(e) }); !ok || value != (Fail{e}) {
			t.Errorf("Must(%d): %v, %v", e, value, ok)
		}
	}
	if value, ok := caught(func() { Must(api.OK) }); ok || value != nil {
		t.Errorf("Must(OK): %v, %v", value, ok)
	}
}

// P7.1: what doesn't panic is called once, and nothing is told of it.
func TestTryOfNoPanic(t *testing.T) {
	n := 0
	if value, ok := Try(func() { n++ }); ok || value != nil || n != 1 {
		t.Errorf("%v, %v, called %d times", value, ok, n)
	}
	if value, ok := Try(func() { Must(api.OK) }); ok || value != nil {
		t.Errorf("Must(OK): %v, %v", value, ok)
	}
	if value, ok := Try(nil); ok || value != nil {
		t.Errorf("nil: %v, %v", value, ok)
	}
}

// P7.1: whatever it panics with is told, as it is.
func TestTryOfPanics(t *testing.T) {
	own := errors.New("own")
	pointer := &Fail{api.ErrFull}
	for _, want := range []any{
		"x", "", 0, 7, false, 1.5, own, pointer, Fail{api.ErrClosed}, Fail{}, like{api.ErrFull},
		within{Fail{api.ErrFull}}, api.ErrTwice, [2]int{1, 2}, struct{}{},
	} {
		n := 0
		value, ok := Try(func() { n++; panic(want) })
		if !ok || value != want || n != 1 {
			t.Errorf("panic(%v): %v, %v, called %d times", want, value, ok, n)
		}
	}
	list := []int{1, 2, 3}
	value, ok := Try(panics(list))
	if got, is := value.([]int); !ok || !is || !slices.Equal(got, list) {
		t.Errorf("a list: %v, %v", value, ok)
	}
}

// P7.1: a panic with nil is one, too.
func TestTryOfNil(t *testing.T) {
	t.Setenv("GODEBUG", "panicnil=0")
	value, ok := Try(panics(nil))
	if _, is := value.(*runtime.PanicNilError); !ok || !is {
		t.Errorf("%v, %v", value, ok)
	}
	if got := Catch(panics(nil)); got != api.ErrPanic {
		t.Errorf("Catch: %d", got)
	}
}

// P7.1: as of Go of old, whose panic with nil recovers nil: panicked it has.
func TestTryOfNilAsOfOld(t *testing.T) {
	t.Setenv("GODEBUG", "panicnil=1")
	if value, ok := Try(panics(nil)); !ok || value != nil {
		t.Errorf("%v, %v", value, ok)
	}
	if got := Catch(panics(nil)); got != api.ErrPanic {
		t.Errorf("Catch: %d", got)
	}
}

// wrong: what the language itself panics at.
func wrong() map[string]func() {
	var none map[int]int
	var pointer *Fail
	var empty any
	var l []int
	zero := 0
	return map[string]func(){
		"a nil map":       func() { none[1] = 1 },
		"a nil pointer":   func() { pointer.Err = 1 },
		"an assertion":    func() { _ = empty.(int) },
		"an index":        func() { l[zero] = 1 },
		"a division by 0": func() { zero = 1 / zero },
		"a length":        func() { _ = make([]int, zero-1) },
	}
}

// P7.1, P7.2: what the language panics at is told, and is no Fail.
func TestWrong(t *testing.T) {
	for what, f := range wrong() {
		value, ok := Try(f)
		if _, is := value.(runtime.Error); !ok || !is {
			t.Errorf("%s: %v, %v", what, value, ok)
		}
		if got := Catch(f); got != api.ErrPanic {
			t.Errorf("%s: Catch: %d", what, got)
		}
	}
}

// P7.1: one that recovers itself doesn't panic; one that panics while it
// panics does so with the last.
func TestTryOfPanicsWithin(t *testing.T) {
	if value, ok := Try(func() { defer func() { recover() }(); panic("x") }); ok || value != nil {
		t.Errorf("recovered: %v, %v", value, ok)
	}
	if value, ok := Try(func() { defer panic("last"); panic("first") }); !ok || value != "last" {
		t.Errorf("twice: %v, %v", value, ok)
	}
	if value, ok := Try(func() { Try(panics("x")) }); ok || value != nil {
		t.Errorf("a Try within: %v, %v", value, ok)
	}
	if value, ok := Try(func() { Try(panics("x")); panic("y") }); !ok || value != "y" {
		t.Errorf("behind a Try within: %v, %v", value, ok)
	}
}

// P7.1: a Try amid a panic tells of what it called, and that panic goes on.
func TestTryAmidAPanic(t *testing.T) {
	var value any
	var was bool
	for _, f := range []func(){nil, func() {}, func() { recover() }, panics("inner")} {
		outer, ok := caught(func() {
			defer func() { value, was = Try(f) }()
			panic("outer")
		})
		if !ok || outer != "outer" {
			t.Errorf("the outer panic: %v, %v", outer, ok)
		}
	}
	if value != "inner" || !was {
		t.Errorf("the inner panic: %v, %v", value, was)
	}
	outer, ok := caught(func() {
		defer Try(func() { recover() })
		panic("outer")
	})
	if !ok || outer != "outer" {
		t.Errorf("a Try that is deferred: %v, %v", outer, ok)
	}
}

// P7.2: OK, the Fail's number, ErrPanic.
func TestCatch(t *testing.T) {
	cases := []struct {
		what string
		f    func()
		want api.Errno
	}{
		{"nil", nil, api.OK},
		{"nothing", func() {}, api.OK},
		{"Must(OK)", fails(api.OK), api.OK},
		{"Must(ErrClosed)", fails(api.ErrClosed), api.ErrClosed},
		{"Must(ErrPanic)", fails(api.ErrPanic), api.ErrPanic},
		{"Must(-1)", fails(-1), -1},
		{"Must(19)", fails(19), 19},
		{"Fail of ErrFull", panics(Fail{api.ErrFull}), api.ErrFull},
		{"Fail of OK", panics(Fail{api.OK}), api.ErrPanic},
		{"a text", panics("x"), api.ErrPanic},
		{"a number", panics(6), api.ErrPanic},
		{"an error's number", panics(api.ErrClosed), api.ErrPanic},
		{"an error", panics(errors.New("x")), api.ErrPanic},
		{"a pointer to a Fail", panics(&Fail{api.ErrClosed}), api.ErrPanic},
		{"a nil pointer to a Fail", panics((*Fail)(nil)), api.ErrPanic},
		{"what is like a Fail", panics(like{api.ErrClosed}), api.ErrPanic},
		{"what has a Fail", panics(within{Fail{api.ErrClosed}}), api.ErrPanic},
		{"a list of Fails", panics([]Fail{{api.ErrClosed}}), api.ErrPanic},
		{"the last of two", func() { defer Must(api.ErrBusy); panic("x") }, api.ErrBusy},
		{"recovered", func() { defer func() { recover() }(); Must(api.ErrBusy) }, api.OK},
		{"caught within", func() { Catch(fails(api.ErrBusy)) }, api.OK},
		{"told on", func() { Must(Catch(fails(api.ErrBusy))) }, api.ErrBusy},
	}
	for _, c := range cases {
		if got := Catch(c.f); got != c.want {
			t.Errorf("%s: %d, wanted %d", c.what, got, c.want)
		}
	}
	for e := api.ErrNil; e <= api.ErrPanic; e++ {
		if got := Catch(fails(e)); got != e {
			t.Errorf("Must(%d): %d", e, got)
		}
	}
}

// P7.2: each is called once, in order, whatever those ahead came to.
func TestAll(t *testing.T) {
	var l tracks
	got := All(
		l.leaves("a", nil), l.leaves("b", fails(api.ErrFull)), nil, l.leaves("c", panics("x")),
		l.leaves("d", panics(Fail{})), l.leaves("e", fails(api.ErrNil)), l.leaves("f", nil))
	want := []api.Errno{api.OK, api.ErrFull, api.OK, api.ErrPanic, api.ErrPanic, api.ErrNil, api.OK}
	if !slices.Equal(got, want) {
		t.Errorf("%v, wanted %v", got, want)
	}
	l.are(t, "All", "a b c d e f")
}

// P7.2: none of none, one of one, and as many as one likes.
func TestAllOfSoMany(t *testing.T) {
	if got := All(); len(got) != 0 {
		t.Errorf("of none: %v", got)
	}
	if got := All([]func(){}...); len(got) != 0 {
		t.Errorf("of a list of none: %v", got)
	}
	if got := All(nil, nil); !slices.Equal(got, []api.Errno{api.OK, api.OK}) {
		t.Errorf("of nils: %v", got)
	}
	if got := All(fails(api.ErrOrder)); !slices.Equal(got, []api.Errno{api.ErrOrder}) {
		t.Errorf("of one: %v", got)
	}
	var many []func()
	var want []api.Errno
	for i := range 3000 {
		many = append(many, fails(api.Errno(i%19)))
		want = append(want, api.Errno(i%19))
	}
	if got := All(many...); !slices.Equal(got, want) {
		t.Error("of many")
	}
}

// P7.2: an answer shares nothing with another one, and the list handed in stays.
func TestAllIsNewMemory(t *testing.T) {
	n := 0
	room := []func(){fails(api.ErrFull), nil, func() { n += 100 }}
	a := All(room[:2]...)
	b := All(room[:2]...)
	a[0] = api.ErrNaN
	_ = append(a[:1], api.ErrNaN)
	if !slices.Equal(b, []api.Errno{api.ErrFull, api.OK}) {
		t.Errorf("the other answer: %v", b)
	}
	if n != 0 || room[1] != nil || Catch(room[0]) != api.ErrFull {
		t.Error("the list that was handed in isn't as it was")
	}
	if room[2](); n != 100 {
		t.Error("the list's spare room isn't as it was")
	}
}

// P7.2, P7.3: first f, then last, each once; the panic is last's, else f's.
func TestEnsure(t *testing.T) {
	cases := []struct {
		what    string
		f, last func()
		value   any
		ok      bool
	}{
		{"no panic", nil, nil, nil, false},
		{"f panics", panics("f"), nil, "f", true},
		{"last panics", nil, panics("last"), "last", true},
		{"both panic", panics("f"), panics("last"), "last", true},
		{"f fails", fails(api.ErrBusy), nil, Fail{api.ErrBusy}, true},
		{"last fails", nil, fails(api.ErrFull), Fail{api.ErrFull}, true},
		{"both fail", fails(api.ErrBusy), fails(api.ErrFull), Fail{api.ErrFull}, true},
		{"both alike", panics("x"), panics("x"), "x", true},
		{"f recovers itself", func() { defer func() { recover() }(); panic("f") }, nil, nil, false},
		{"last recovers itself", panics("f"), func() { defer func() { recover() }(); panic("last") }, "f", true},
	}
	for _, c := range cases {
		var l tracks
		value, ok := caught(func() {
			Ensure(l.leaves("f", c.f), l.leaves("last", c.last))
			l.leaves("behind", nil)()
		})
		if value != c.value || ok != c.ok {
			t.Errorf("%s: %v, %v, wanted %v, %v", c.what, value, ok, c.value, c.ok)
		}
		want := "f last"
		if !c.ok {
			want += " behind"
		}
		l.are(t, c.what, want)
	}
}

// P7.2: a nil one is not called; the other one is.
func TestEnsureOfNil(t *testing.T) {
	var l tracks
	if value, ok := caught(func() { Ensure(nil, nil) }); ok {
		t.Errorf("nil, nil: %v", value)
	}
	if value, ok := caught(func() { Ensure(nil, l.leaves("last", nil)) }); ok {
		t.Errorf("nil, last: %v", value)
	}
	if value, ok := caught(func() { Ensure(l.leaves("f", nil), nil) }); ok {
		t.Errorf("f, nil: %v", value)
	}
	if value, ok := caught(func() { Ensure(l.leaves("g", panics("g")), nil) }); !ok || value != "g" {
		t.Errorf("g, nil: %v, %v", value, ok)
	}
	if value, ok := caught(func() { Ensure(nil, l.leaves("h", panics("h"))) }); !ok || value != "h" {
		t.Errorf("nil, h: %v, %v", value, ok)
	}
	l.are(t, "nil ones", "last f g h")
}

// P7.2: f's panic goes on, whatever last does about panics.
func TestEnsureGoesOn(t *testing.T) {
	lasts := map[string]func(){
		"recovers":          func() { recover() },
		"recovers deferred": func() { defer func() { recover() }() },
		"tries nothing":     func() { Try(nil) },
		"tries":             func() { Try(func() {}) },
		"tries a recover":   func() { Try(func() { recover() }) },
		"catches":           func() { Catch(panics("x")) },
		"ensures":           func() { Ensure(func() {}, func() { recover() }) },
		"catches many":      func() { All(nil, panics("x"), fails(api.ErrNil)) },
	}
	for what, last := range lasts {
		n := 0
		value, ok := caught(func() { Ensure(panics("f"), func() { n++; last() }) })
		if !ok || value != "f" || n != 1 {
			t.Errorf("%s: %v, %v, called %d times", what, value, ok, n)
		}
		if value, ok = caught(func() { Ensure(panics("f"), last) }); !ok || value != "f" {
			t.Errorf("%s, by itself: %v, %v", what, value, ok)
		}
		if value, ok = Try(func() { Ensure(nil, last) }); ok {
			t.Errorf("%s, of no panic: %v", what, value)
		}
	}
}

// P7.2: where the language itself panics, last is called, and it goes on.
func TestEnsureOfWrong(t *testing.T) {
	for what, f := range wrong() {
		n := 0
		value, ok := caught(func() { Ensure(f, func() { n++ }) })
		if _, is := value.(runtime.Error); !ok || !is || n != 1 {
			t.Errorf("%s: %v, %v, called %d times", what, value, ok, n)
		}
	}
}

// P7.3: of one within the other each is done once, the inner one first.
func TestEnsureWithin(t *testing.T) {
	for what, c := range map[string]struct {
		then [3]func()
		want api.Errno
	}{
		"no panic":          {[3]func(){}, api.OK},
		"the inmost":        {[3]func(){fails(api.ErrNil)}, api.ErrNil},
		"the inner last":    {[3]func(){nil, fails(api.ErrFull)}, api.ErrFull},
		"the outer last":    {[3]func(){nil, nil, fails(api.ErrBusy)}, api.ErrBusy},
		"all of them":       {[3]func(){fails(api.ErrNil), fails(api.ErrFull), fails(api.ErrBusy)}, api.ErrBusy},
		"the two inner":     {[3]func(){fails(api.ErrNil), fails(api.ErrFull)}, api.ErrFull},
		"first and outmost": {[3]func(){panics("x"), nil, panics("y")}, api.ErrPanic},
	} {
		var l tracks
		got := Catch(func() {
			Ensure(func() {
				Ensure(l.leaves("f", c.then[0]), l.leaves("inner", c.then[1]))
			}, l.leaves("outer", c.then[2]))
		})
		if got != c.want {
			t.Errorf("%s: %d, wanted %d", what, got, c.want)
		}
		l.are(t, what, "f inner outer")
	}
}

// P7.3: also in the last one, and deep down.
func TestEnsureInLast(t *testing.T) {
	var l tracks
	value, ok := Try(func() {
		Ensure(l.leaves("f", panics("f")), func() {
			Ensure(l.leaves("g", panics("g")), l.leaves("last", nil))
		})
	})
	if !ok || value != "g" {
		t.Errorf("%v, %v", value, ok)
	}
	l.are(t, "in the last one", "f g last")

	n := 0
	f := panics("deep")
	for range 1000 {
		inner := f
		f = func() { Ensure(inner, func() { n++ }) }
	}
	if value, ok = Try(f); !ok || value != "deep" || n != 1000 {
		t.Errorf("deep down: %v, %v, called %d times", value, ok, n)
	}
}

// P7.3: also where the thread of execution ends within.
func TestEnsureOfTheEnd(t *testing.T) {
	n := 0
	done := make(chan bool)
	go func() {
		defer close(done)
		Try(func() { Ensure(runtime.Goexit, func() { n++ }) })
		n += 100
	}()
	<-done
	if n != 1 {
		t.Errorf("called %d times", n)
	}
}
