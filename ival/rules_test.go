package ival_test

import (
	"math"
	"slices"
	"testing"

	"trammel/api"
	"trammel/ival"
)

// The rules that hold everywhere, P1 to P5 and P7, at every call, and the order of the errors.

// given is what calls are handed.
type given struct {
	a, b api.Ival
	r    api.Rat
}

// answers is what a call answers: its floats, its whole numbers, and all else beside them.
type answers struct {
	a       api.Ival
	numbers []api.Int
	order   int
	is      bool
	e       api.Errno
}

func alikeAnswers(x, y answers) bool {
	return equal(x.a, y.a) && slices.EqualFunc(x.numbers, y.numbers, alike) && x.order == y.order && x.is == y.is && x.e == y.e
}

func interval(a api.Ival, e api.Errno) answers { return answers{a: a, e: e} }

// pairs are the calls that take two intervals, and singles those that take one; Holds takes a rational beside it.
func pairs() map[string]func(g given) answers {
	return map[string]func(g given) answers{
		"Add": func(g given) answers { return interval(ival.Add(g.a, g.b)) },
		"Sub": func(g given) answers { return interval(ival.Sub(g.a, g.b)) },
		"Mul": func(g given) answers { return interval(ival.Mul(g.a, g.b)) },
		"Cmp": func(g given) answers {
			order, is, e := ival.Cmp(g.a, g.b)
			return answers{order: order, is: is, e: e}
		},
	}
}

func holds(g given) answers {
	is, e := ival.Holds(g.a, g.r)
	return answers{is: is, e: e}
}

func singles() map[string]func(g given) answers {
	return map[string]func(g given) answers{
		"Valid": func(g given) answers { return answers{e: ival.Valid(g.a)} },
		"Sqr":   func(g given) answers { return interval(ival.Sqr(g.a)) },
		"Holds": holds,
	}
}

// others are the calls that take no interval.
func others() map[string]func(g given) answers {
	return map[string]func(g given) answers{
		"Down":  func(g given) answers { return answers{a: span(ival.Down(g.a.Lo), 0)} },
		"Up":    func(g given) answers { return answers{a: span(ival.Up(g.a.Lo), 0)} },
		"OfInt": func(g given) answers { return interval(ival.OfInt(g.r.Num), api.OK) },
		"OfRat": func(g given) answers { return interval(ival.OfRat(g.r)) },
		"Exact": func(g given) answers {
			r, is := ival.Exact(g.a.Lo)
			return answers{numbers: []api.Int{r.Num, r.Den}, is: is}
		},
	}
}

// rats are rationals, some of them in loose forms, and some that may not be.
func rats() []api.Rat {
	out := append(unfitRats(), q(0, 1), q(-6, 4), api.Rat{Num: num(true, 0, 0), Den: num(false, 7, 0, 0)}, api.Rat{Num: num(true, top, top, 0), Den: num(false, 0, 3, 0)})
	for i, x := range numbers() {
		if i%40 == 0 {
			out = append(out, terms(x), loose(x, 12))
		}
	}
	return out
}

// everywhere calls f at every call with much that may be handed in, also what can't be.
func everywhere(f func(name string, call func(g given) answers, g given)) {
	intervals, all := append(unfit(), some()...), rats()
	for _, calls := range []map[string]func(g given) answers{pairs(), singles(), others()} {
		for name, call := range calls {
			for i, a := range intervals {
				for j := i % 13; j < len(intervals); j += 13 {
					f(name, call, given{a, intervals[j], all[(i+j)%len(all)]})
				}
			}
			for _, r := range all {
				f(name, call, given{span(-1, 2), span(0, 1), r})
			}
		}
	}
}

// refused: beside an error all else is zero, and a float +0.
func refused(t *testing.T, name string, got answers, e api.Errno) {
	t.Helper()
	if !alikeAnswers(got, answers{e: e}) {
		t.Errorf("%s: %v instead of error %d", name, got, e)
	}
}

func TestErrIvalWhereverItStands(t *testing.T) {
	for _, bad := range unfit() {
		for name, call := range pairs() {
			for _, a := range append(some()[:12], unfit()...) {
				refused(t, name, call(given{a: a, b: bad}), api.ErrIval)
				refused(t, name, call(given{a: bad, b: a}), api.ErrIval)
			}
		}
		for name, call := range singles() {
			for _, r := range rats() {
				// Where the rational may not be either, ErrIval is the first.
				refused(t, name, call(given{a: bad, r: r}), api.ErrIval)
			}
		}
	}
}

func TestErrRat(t *testing.T) {
	for _, r := range unfitRats() {
		refused(t, "OfRat", interval(ival.OfRat(r)), api.ErrRat)
		for _, a := range some() {
			refused(t, "Holds", holds(given{a: a, r: r}), api.ErrRat)
		}
	}
}

// roomy is a whole number with room behind its end that a call must leave as it is.
func roomy(a api.Int) api.Int {
	all := append(slices.Clone(a.Mag), 0xdead, 0xbeef, 0xfeed)
	return api.Int{Neg: a.Neg, Mag: all[:len(a.Mag)]}
}

func room(a api.Int) []uint32 { return a.Mag[:cap(a.Mag)] }

func rooms(all []api.Int) [][]uint32 {
	out := [][]uint32{}
	for _, a := range all {
		out = append(out, slices.Clone(room(a)))
	}
	return out
}

func TestArgumentsStay(t *testing.T) {
	everywhere(func(name string, call func(g given) answers, g given) {
		all := []api.Int{roomy(g.r.Num), roomy(g.r.Den)}
		before := rooms(all)
		call(given{g.a, g.b, api.Rat{Num: all[0], Den: all[1]}})
		if !slices.EqualFunc(before, rooms(all), slices.Equal) {
			t.Errorf("%s changed an argument: %v", name, g.r)
		}
	})
}

// TestAnswersAreNew writes over each number that Exact answers, its spare room too, and looks whether another one has changed.
func TestAnswersAreNew(t *testing.T) {
	for _, f := range append(floats(), nans()...) {
		a, _ := ival.Exact(f)
		b, _ := ival.Exact(f)
		all := []api.Int{a.Num, a.Den, b.Num, b.Den}
		for i := range all {
			before := rooms(all)
			for j := range room(all[i]) {
				room(all[i])[j] ^= 0x5a5a5a5a
				before[i][j] ^= 0x5a5a5a5a
			}
			if !slices.EqualFunc(before, rooms(all), slices.Equal) {
				t.Errorf("Exact(%v): two numbers share memory", f)
			}
		}
	}
}

// TestOneAnswer: what a call answers hangs on its arguments alone.
func TestOneAnswer(t *testing.T) {
	everywhere(func(name string, call func(g given) answers, g given) {
		if x, y := call(g), call(g); !alikeAnswers(x, y) {
			t.Errorf("%s of %v: %v and %v", name, g, x, y)
		}
	})
}

// TestFieldsCountForNothing gives each number with limbs of 0 at its end, and 0 with a minus.
func TestFieldsCountForNothing(t *testing.T) {
	wide := func(a api.Int, n int) api.Int {
		return api.Int{Neg: a.Neg || whole(a).Sign() == 0, Mag: slices.Concat(a.Mag, make([]uint32, n))}
	}
	everywhere(func(name string, call func(g given) answers, g given) {
		tight := call(given{g.a, g.b, api.Rat{Num: form(whole(g.r.Num)), Den: form(whole(g.r.Den))}})
		other := call(given{g.a, g.b, api.Rat{Num: wide(g.r.Num, 2), Den: wide(g.r.Den, 1)}})
		if !alikeAnswers(tight, other) {
			t.Errorf("%s(%v): %v and %v", name, g, tight, other)
		}
	})
}

// TestSignsOfNoughtsCountForNothing gives each nought with the other sign; and no answer is -0.
func TestSignsOfNoughtsCountForNothing(t *testing.T) {
	turned := func(f float64) float64 {
		if f == 0 {
			return -f
		}
		return f
	}
	other := func(a api.Ival) api.Ival { return span(turned(a.Lo), turned(a.Hi)) }
	everywhere(func(name string, call func(g given) answers, g given) {
		x, y := call(g), call(given{other(g.a), other(g.b), g.r})
		if !alikeAnswers(x, y) {
			t.Errorf("%s(%v): %v and %v", name, g, x, y)
		}
		for _, f := range []float64{x.a.Lo, x.a.Hi} {
			if f == 0 && math.Signbit(f) {
				t.Errorf("%s(%v) answers -0", name, g)
			}
		}
	})
}

// TestAnswersMayBe: no interval that is answered has a NaN in it, or its ends the wrong way round.
func TestAnswersMayBe(t *testing.T) {
	everywhere(func(name string, call func(g given) answers, g given) {
		if out := call(g); name != "Down" && name != "Up" {
			wantErr(t, name, ival.Valid(out.a), api.OK)
		}
	})
}

// TestOneListTwice: numerator and denominator may be one list.
func TestOneListTwice(t *testing.T) {
	for _, n := range []api.Int{small(1), small(3), num(false, 0, 1), num(false, top, top, 0)} {
		for _, neg := range []bool{false, true} {
			f := 1.0
			if neg {
				f = -1
			}
			r := api.Rat{Num: api.Int{Neg: neg, Mag: n.Mag}, Den: n}
			a, e := ival.OfRat(r)
			want(t, "OfRat", a, e, span(f, f))
			if is, e := ival.Holds(a, r); !is || e != api.OK {
				t.Errorf("Holds(%v, %v): %v, %d", a, r, is, e)
			}
		}
	}
}
