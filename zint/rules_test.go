package zint_test

import (
	"math"
	"slices"
	"testing"

	"trammel/api"
	"trammel/zint"
)

// The rules that hold everywhere, P1 to P4, and P2.7's first: numbers count, not fields. All at every call of zint.

// answers is what a call answers: its numbers, and all else as numbers beside them.
type answers struct {
	numbers []api.Int
	rest    []int64
}

func number(a api.Int) answers                 { return answers{numbers: []api.Int{a}} }
func refused(a api.Int, e api.Errno) answers   { return answers{[]api.Int{a}, []int64{int64(e)}} }
func plain(rest ...int64) answers              { return answers{rest: rest} }
func two(a, b api.Int, e api.Errno) answers    { return answers{[]api.Int{a, b}, []int64{int64(e)}} }
func three(a, b, c api.Int) answers            { return answers{numbers: []api.Int{a, b, c}} }
func small(n int64, ok bool) answers           { return plain(n, truth(ok)) }
func highest(m uint64, e int, ok bool) answers { return plain(int64(m), int64(e), truth(ok)) }

func truth(ok bool) int64 {
	if ok {
		return 1
	}
	return 0
}

// letters are the bytes of a text.
func letters(s string) answers {
	out := answers{}
	for i := range len(s) {
		out.rest = append(out.rest, int64(s[i]))
	}
	return out
}

// calls is each call that takes numbers.
func calls() map[string]func(a, b api.Int) answers {
	out := map[string]func(a, b api.Int) answers{
		"Small":   func(a, b api.Int) answers { return small(zint.Small(a)) },
		"Form":    func(a, b api.Int) answers { return number(zint.Form(a)) },
		"Sign":    func(a, b api.Int) answers { return plain(int64(zint.Sign(a))) },
		"Compare": func(a, b api.Int) answers { return plain(int64(zint.Compare(a, b))) },
		"Neg":     func(a, b api.Int) answers { return number(zint.Neg(a)) },
		"Abs":     func(a, b api.Int) answers { return number(zint.Abs(a)) },
		"Add":     func(a, b api.Int) answers { return number(zint.Add(a, b)) },
		"Sub":     func(a, b api.Int) answers { return number(zint.Sub(a, b)) },
		"Mul":     func(a, b api.Int) answers { return number(zint.Mul(a, b)) },
		"Sum 1":   func(a, b api.Int) answers { return number(zint.Sum([]api.Int{a})) },
		"Sum 2":   func(a, b api.Int) answers { return number(zint.Sum([]api.Int{a, b})) },
		"Sum 3":   func(a, b api.Int) answers { return number(zint.Sum([]api.Int{a, b, a})) },
		"Floor":   func(a, b api.Int) answers { return two(zint.Floor(a, b)) },
		"Near":    func(a, b api.Int) answers { return refused(zint.Near(a, b)) },
		"Exact":   func(a, b api.Int) answers { return refused(zint.Exact(a, b)) },
		"Gcd":     func(a, b api.Int) answers { return number(zint.Gcd(a, b)) },
		"Bezout":  func(a, b api.Int) answers { return three(zint.Bezout(a, b)) },
		"Root":    func(a, b api.Int) answers { return refused(zint.Root(a)) },
		"Bits":    func(a, b api.Int) answers { return plain(int64(zint.Bits(a))) },
		"Top":     func(a, b api.Int) answers { return highest(zint.Top(a)) },
		"Text":    func(a, b api.Int) answers { return letters(zint.Text(a)) },
	}
	for name, n := range map[string]int{"-1": -1, "0": 0, "1": 1, "2": 2, "3": 3, "33": 33, "-33": -33} {
		out["Power "+name] = func(a, b api.Int) answers { return refused(zint.Power(a, n)) }
		out["Shift "+name] = func(a, b api.Int) answers { return refused(zint.Shift(a, n)) }
	}
	return out
}

func everywhere(f func(name string, call func(a, b api.Int) answers, a, b api.Int)) {
	for name, call := range calls() {
		pairs(func(a, b api.Int) { f(name, call, a, b) })
	}
}

// roomy is a with room behind its end that a call must leave as it is.
func roomy(a api.Int) api.Int {
	all := append(slices.Clone(a.Mag), 0xdead, 0xbeef, 0xfeed)
	return api.Int{Neg: a.Neg, Mag: all[:len(a.Mag)]}
}

func whole(a api.Int) []uint32 { return a.Mag[:cap(a.Mag)] }

func TestArgumentsStay(t *testing.T) {
	everywhere(func(name string, call func(a, b api.Int) answers, a, b api.Int) {
		x, y := roomy(a), roomy(b)
		before, before2 := slices.Clone(whole(x)), slices.Clone(whole(y))
		call(x, y)
		if !slices.Equal(whole(x), before) || !slices.Equal(whole(y), before2) {
			t.Errorf("%s changed an argument: %v, %v", name, a, b)
		}
	})
}

func TestListsStay(t *testing.T) {
	all := append(samples(), zint.Of(7), zint.Of(8))
	before := slices.Clone(all)
	zint.Sum(all[:len(all)-2])
	for i := range all {
		if !alike(all[i], before[i]) {
			t.Errorf("Sum changed the list at %d", i)
		}
	}
}

// TestAnswersAreNew writes over each answer, its spare room too, and looks whether anything else has changed.
func TestAnswersAreNew(t *testing.T) {
	everywhere(func(name string, call func(a, b api.Int) answers, a, b api.Int) {
		x, y := roomy(a), roomy(b)
		all := append(call(x, y).numbers, x, y)
		for i := range len(all) - 2 {
			before := [][]uint32{}
			for _, n := range all {
				before = append(before, slices.Clone(whole(n)))
			}
			for j := range whole(all[i]) {
				whole(all[i])[j] ^= 0x5a5a5a5a
			}
			for k := range all {
				if k != i && !slices.Equal(whole(all[k]), before[k]) {
					t.Errorf("%s: two numbers share memory: %v, %v", name, a, b)
				}
			}
		}
	})
}

// TestFieldsCountForNothing gives each number with limbs of 0 at its end, and 0 with a minus.
func TestFieldsCountForNothing(t *testing.T) {
	loose := func(a api.Int, n int) api.Int {
		neg := a.Neg || value(a).Sign() == 0
		return api.Int{Neg: neg, Mag: slices.Concat(a.Mag, make([]uint32, n))}
	}
	everywhere(func(name string, call func(a, b api.Int) answers, a, b api.Int) {
		one, other := call(form(value(a)), form(value(b))), call(loose(a, 2), loose(b, 1))
		if !slices.EqualFunc(one.numbers, other.numbers, alike) || !slices.Equal(one.rest, other.rest) {
			t.Errorf("%s(%v, %v): %v and %v", name, a, b, one, other)
		}
	})
}

func TestAnswersAreInOneForm(t *testing.T) {
	everywhere(func(name string, call func(a, b api.Int) answers, a, b api.Int) {
		for _, n := range call(a, b).numbers {
			if !alike(n, form(value(n))) {
				t.Errorf("%s(%v, %v): %v", name, a, b, n)
			}
		}
	})
}

// TestOneListTwice: an argument may be the other one, or a piece of it.
func TestOneListTwice(t *testing.T) {
	for name, call := range calls() {
		for _, a := range samples() {
			b := api.Int{Neg: !a.Neg, Mag: a.Mag[len(a.Mag)/2:]}
			one := call(a, b)
			other := call(api.Int{Neg: a.Neg, Mag: slices.Clone(a.Mag)}, api.Int{Neg: b.Neg, Mag: slices.Clone(b.Mag)})
			if !slices.EqualFunc(one.numbers, other.numbers, alike) || !slices.Equal(one.rest, other.rest) {
				t.Errorf("%s(%v, %v): %v and %v", name, a, b, one, other)
			}
		}
	}
}

// TestNumbersAtTheirEnds: no count makes a call panic or go on without end.
func TestNumbersAtTheirEnds(t *testing.T) {
	for _, n := range []int{math.MinInt, math.MinInt + 1, -1, 0, 1, math.MaxInt - 1, math.MaxInt} {
		for _, a := range samples() {
			zint.Power(a, n)
			zint.Shift(a, n)
		}
	}
}
