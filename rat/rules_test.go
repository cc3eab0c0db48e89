package rat_test

import (
	"slices"
	"testing"

	"trammel/api"
	"trammel/rat"
)

// The rules that hold everywhere, P1 to P4 and P6, and that ErrRat comes first. All at every call that takes rationals.

// answers is what a call answers: its whole numbers, and all else beside them.
type answers struct {
	numbers []api.Int
	text    string
	order   int
	e       api.Errno
}

func one(n api.Int, e api.Errno) answers  { return answers{numbers: []api.Int{n}, e: e} }
func both(a api.Rat, e api.Errno) answers { return answers{numbers: []api.Int{a.Num, a.Den}, e: e} }
func order(n int, e api.Errno) answers    { return answers{order: n, e: e} }
func letters(s string, e api.Errno) answers {
	return answers{text: s, e: e}
}

func equal(x, y answers) bool {
	return slices.EqualFunc(x.numbers, y.numbers, alike) && x.text == y.text && x.order == y.order && x.e == y.e
}

// single and double are the calls of one rational and of two.
func single() map[string]func(a api.Rat) answers {
	return map[string]func(a api.Rat) answers{
		"Floor": func(a api.Rat) answers { return one(rat.Floor(a)) },
		"Near":  func(a api.Rat) answers { return one(rat.Near(a)) },
		"Dist":  func(a api.Rat) answers { return both(rat.Dist(a)) },
		"Text":  func(a api.Rat) answers { return letters(rat.Text(a)) },
	}
}

func double() map[string]func(a, b api.Rat) answers {
	return map[string]func(a, b api.Rat) answers{
		"Add": func(a, b api.Rat) answers { return both(rat.Add(a, b)) },
		"Sub": func(a, b api.Rat) answers { return both(rat.Sub(a, b)) },
		"Mul": func(a, b api.Rat) answers { return both(rat.Mul(a, b)) },
		"Div": func(a, b api.Rat) answers { return both(rat.Div(a, b)) },
		"Cmp": func(a, b api.Rat) answers { return order(rat.Cmp(a, b)) },
	}
}

// calls is every call, those of whole numbers too.
func calls() map[string]func(a, b api.Rat) answers {
	out := double()
	for name, call := range single() {
		out[name] = func(a, b api.Rat) answers { return call(a) }
	}
	out["Of"] = func(a, b api.Rat) answers { return both(rat.Of(a.Num), 0) }
	out["Make"] = func(a, b api.Rat) answers { return both(rat.Make(a.Num, b.Num)) }
	return out
}

// everywhere calls f at every call with pairs of rationals, those that may not be too.
func everywhere(f func(name string, call func(a, b api.Rat) answers, a, b api.Rat)) {
	all := append(samples(), unfit()...)
	for name, call := range calls() {
		for i, a := range all {
			for j := i % 7; j < len(all); j += 7 {
				f(name, call, a, all[j])
			}
		}
	}
}

// TestErrRatComesFirst: beside what may not be nothing is answered, wherever it stands, also where ErrDiv would be.
func TestErrRatComesFirst(t *testing.T) {
	refused := func(name string, out answers) {
		t.Helper()
		wantErr(t, name, out.e, api.ErrRat)
		for _, n := range out.numbers {
			noInt(t, name, n)
		}
		if out.text != "" || out.order != 0 {
			t.Errorf("%s: %q, %d beside an error", name, out.text, out.order)
		}
	}
	for _, bad := range unfit() {
		for name, call := range single() {
			refused(name, call(bad))
		}
		for name, call := range double() {
			for _, a := range append(unfit(), q(0, 1), q(1, 2), q(-7, 1)) {
				refused(name, call(bad, a))
				refused(name, call(a, bad))
			}
		}
	}
}

// roomy is a whole number with room behind its end that a call must leave as it is.
func roomy(a api.Int) api.Int {
	all := append(slices.Clone(a.Mag), 0xdead, 0xbeef, 0xfeed)
	return api.Int{Neg: a.Neg, Mag: all[:len(a.Mag)]}
}

func room(a api.Int) []uint32 { return a.Mag[:cap(a.Mag)] }

func rooms(all []api.Int) [][]uint32 {
	out := [][]uint32{}
	for _, a := range all {
		out = append(out, slices.Clone(room(a)))
	}
	return out
}

func TestArgumentsStay(t *testing.T) {
	everywhere(func(name string, call func(a, b api.Rat) answers, a, b api.Rat) {
		all := []api.Int{roomy(a.Num), roomy(a.Den), roomy(b.Num), roomy(b.Den)}
		before := rooms(all)
		call(api.Rat{Num: all[0], Den: all[1]}, api.Rat{Num: all[2], Den: all[3]})
		if !slices.EqualFunc(before, rooms(all), slices.Equal) {
			t.Errorf("%s changed an argument: %v, %v", name, a, b)
		}
	})
}

// apart writes over each number from one on, its spare room too, and looks whether another one has changed.
func apart(t *testing.T, name string, all []api.Int, from int) {
	t.Helper()
	for i := from; i < len(all); i++ {
		before := rooms(all)
		for j := range room(all[i]) {
			room(all[i])[j] ^= 0x5a5a5a5a
			before[i][j] ^= 0x5a5a5a5a
		}
		if !slices.EqualFunc(before, rooms(all), slices.Equal) {
			t.Errorf("%s: two numbers share memory", name)
		}
	}
}

func TestAnswersAreNew(t *testing.T) {
	everywhere(func(name string, call func(a, b api.Rat) answers, a, b api.Rat) {
		all := []api.Int{roomy(a.Num), roomy(a.Den), roomy(b.Num), roomy(b.Den)}
		out := call(api.Rat{Num: all[0], Den: all[1]}, api.Rat{Num: all[2], Den: all[3]})
		apart(t, name, append(all, out.numbers...), len(all))
	})
	for _, s := range []string{"0", "1", "1/1", "4294967296/4294967297", "-6/4"} {
		a, _, _ := rat.Read(s)
		b, _, _ := rat.Read(s)
		apart(t, "Read", []api.Int{a.Num, a.Den, b.Num, b.Den}, 0)
	}
}

// TestFieldsCountForNothing gives each number with limbs of 0 at its end, and 0 with a minus.
func TestFieldsCountForNothing(t *testing.T) {
	loose := func(a api.Int, n int) api.Int {
		return api.Int{Neg: a.Neg || whole(a).Sign() == 0, Mag: slices.Concat(a.Mag, make([]uint32, n))}
	}
	everywhere(func(name string, call func(a, b api.Rat) answers, a, b api.Rat) {
		x := api.Rat{Num: form(whole(a.Num)), Den: form(whole(a.Den))}
		y := api.Rat{Num: form(whole(b.Num)), Den: form(whole(b.Den))}
		tight := call(x, y)
		other := call(api.Rat{Num: loose(a.Num, 2), Den: loose(a.Den, 1)}, api.Rat{Num: loose(b.Num, 1), Den: loose(b.Den, 3)})
		if !equal(tight, other) {
			t.Errorf("%s(%v, %v): %v and %v", name, a, b, tight, other)
		}
	})
}

// TestOneListTwice: what is handed in may be one list in all its places.
func TestOneListTwice(t *testing.T) {
	for name, call := range calls() {
		for _, n := range ints() {
			a := api.Rat{Num: n, Den: api.Int{Mag: n.Mag}}
			b := api.Rat{Num: api.Int{Neg: !n.Neg, Mag: n.Mag}, Den: api.Int{Mag: n.Mag}}
			copied := func(a api.Rat) api.Rat {
				return api.Rat{Num: api.Int{Neg: a.Num.Neg, Mag: slices.Clone(a.Num.Mag)}, Den: api.Int{Neg: a.Den.Neg, Mag: slices.Clone(a.Den.Mag)}}
			}
			if shared, apart := call(a, b), call(copied(a), copied(b)); !equal(shared, apart) {
				t.Errorf("%s of %v: %v and %v", name, n, shared, apart)
			}
		}
	}
}
