package elim_test

import (
	"math/rand"
	"reflect"
	"slices"
	"testing"
	"unsafe"

	"trammel/api"
	"trammel/elim"
)

// The rules that hold everywhere, P1 to P5, at every call.

// given is what calls are handed.
type given struct {
	b [][]api.Int
	v []api.Int
}

// answers is what a call answers: its matrix or its one list, its number, and all else.
type answers struct {
	rows   [][]api.Int
	number api.Int
	counts []int
	is     bool
	e      api.Errno
}

func calls() map[string]func(g given) answers {
	list := func(l []api.Int, n api.Int, e api.Errno) answers {
		return answers{rows: rows(l), number: n, e: e}
	}
	return map[string]func(g given) answers{
		"Det": func(g given) answers {
			d, e := elim.Det(g.b)
			return answers{number: d, e: e}
		},
		"Rank": func(g given) answers {
			n, e := elim.Rank(g.b)
			return answers{counts: []int{n}, e: e}
		},
		"Steps": func(g given) answers {
			b, heads, e := elim.Steps(g.b)
			return answers{rows: b, counts: heads, e: e}
		},
		"Solve": func(g given) answers { return list(elim.Solve(g.b, g.v)) },
		"Inverse": func(g given) answers {
			b, d, e := elim.Inverse(g.b)
			return answers{rows: b, number: d, e: e}
		},
		"Null": func(g given) answers {
			b, e := elim.Null(g.b)
			return answers{rows: b, e: e}
		},
		"Unimodular": func(g given) answers {
			is, e := elim.Unimodular(g.b)
			return answers{is: is, e: e}
		},
		"Minors": func(g given) answers {
			l, e := elim.Minors(g.b)
			return list(l, api.Int{}, e)
		},
		"Cramer": func(g given) answers { return list(elim.Cramer(g.b, g.v)) },
	}
}

// everywhere calls f at every call with much that may be handed in, also what can't be, made anew each time.
func everywhere(f func(name string, call func(g given) answers, g given)) {
	r := rand.New(rand.NewSource(31))
	all := []given{}
	for _, s := range samples(32) {
		x := drawVector(r, len(s.b), digit)
		all = append(all, given{s.b, combined(x, s.b, s.width)}, given{s.b, drawVector(r, s.width, long(2))}, given{b: s.b, v: vec(1, 2, 3, 4, 5, 6, 7)})
	}
	for _, b := range slices.Concat(shapeless()[:5], oblong()[:5], [][][]api.Int{rows(vec(-2)), rows(vec(0, -1), vec(3, 0))}) {
		all = append(all, given{b: b, v: vec(1, 2)}, given{b: b})
	}
	for name, call := range calls() {
		for _, g := range all {
			f(name, call, roomy(g))
		}
	}
}

// behind is a list with room behind its end that a call must leave as it is.
func behind[T any](l []T, rest ...T) []T {
	return slices.Concat(l, rest)[:len(l)]
}

func roomyVector(v []api.Int) []api.Int {
	out := []api.Int{}
	for _, a := range v {
		out = append(out, api.Int{Neg: a.Neg, Mag: behind(a.Mag, 0xdead, 0xbeef)})
	}
	return behind(out, num(true, 0xfeed), num(false, 0, 0))
}

func roomy(g given) given {
	out := [][]api.Int{}
	for _, row := range g.b {
		out = append(out, roomyVector(row))
	}
	return given{behind(out, vec(1, 2, 3)), roomyVector(g.v)}
}

// lists is all that was handed in, with the room behind ends, all of it new.
func (g given) lists() [][]api.Int {
	out := append(slices.Clone(g.b[:cap(g.b)]), g.v)
	for i, row := range out {
		out[i] = slices.Clone(row[:cap(row)])
		for j, a := range out[i] {
			out[i][j].Mag = slices.Clone(a.Mag[:cap(a.Mag)])
		}
	}
	return out
}

func TestArgumentsStay(t *testing.T) {
	everywhere(func(name string, call func(g given) answers, g given) {
		before := g.lists()
		call(g)
		if !reflect.DeepEqual(before, g.lists()) {
			t.Errorf("%s changed an argument: %v", name, before)
		}
	})
}

// span is the memory of a list, its room with it.
type span struct{ from, to uintptr }

func spanOf[T any](l []T) span {
	from := uintptr(unsafe.Pointer(unsafe.SliceData(l)))
	return span{from, from + uintptr(cap(l))*unsafe.Sizeof(*new(T))}
}

// spans is the memory of all lists of a matrix, those in the room behind an end too.
func spans(b [][]api.Int) []span {
	out := []span{spanOf(b)}
	for _, row := range b[:cap(b)] {
		out = append(out, spanOf(row))
		for _, a := range row[:cap(row)] {
			out = append(out, spanOf(a.Mag))
		}
	}
	return out
}

func (a answers) spans() []span {
	return append(spans(a.rows), spanOf(a.number.Mag), spanOf(a.counts))
}

func TestAnswersAreNew(t *testing.T) {
	everywhere(func(name string, call func(g given) answers, g given) {
		one, other := call(g), call(g)
		fresh := one.spans()
		old := slices.Concat(spans(g.b), spans(rows(g.v)), other.spans())
		for i, s := range fresh {
			for _, o := range slices.Concat(fresh[:i], old) {
				if s.from < s.to && o.from < o.to && s.from < o.to && o.from < s.to {
					t.Fatalf("%s(%v): two lists share memory", name, g)
				}
			}
		}
	})
}

// TestRowsDoNotGrowIntoEachOther: one may append to each list of an answer.
func TestRowsDoNotGrowIntoEachOther(t *testing.T) {
	everywhere(func(name string, call func(g given) answers, g given) {
		out, sure := call(g), call(g)
		for _, row := range out.rows {
			_ = append(row, num(true, 77), num(true, 78))
		}
		if !same(out, sure) {
			t.Errorf("%s: a row grew into another one: %v", name, out)
		}
	})
}

// same: the same answers, field by field, but for nil and empty lists.
func same(x, y answers) bool {
	return alikeRows(x.rows, y.rows) && alike(x.number, y.number) && slices.Equal(x.counts, y.counts) && x.is == y.is && x.e == y.e
}

// TestZeroBesideAnError: nothing is answered beside an error.
func TestZeroBesideAnError(t *testing.T) {
	refused := map[string]int{}
	everywhere(func(name string, call func(g given) answers, g given) {
		out := call(g)
		if out.e == api.OK {
			return
		}
		refused[name]++
		if len(slices.Concat(out.rows...)) != 0 || !alike(out.number, api.Int{}) || slices.Max(append(out.counts, 0)) != 0 || out.is {
			t.Errorf("%s: %v beside an error", name, out)
		}
		if many := len(out.rows); many > 1 || many == 1 && name != "Solve" && name != "Minors" && name != "Cramer" {
			t.Errorf("%s: %d rows beside an error", name, many)
		}
	})
	for name := range calls() {
		if refused[name] == 0 {
			t.Errorf("%s was never refused", name)
		}
	}
}

// changed is all that was handed in, each number by its other fields; empty lists are nil.
func (g given) changed(f func(a api.Int) api.Int) given {
	list := func(v []api.Int) []api.Int {
		var out []api.Int
		for _, a := range v {
			out = append(out, f(a))
		}
		return out
	}
	var out [][]api.Int
	for _, row := range g.b {
		out = append(out, list(row))
	}
	return given{out, list(g.v)}
}

// TestFieldsCountForNothing gives each number in one form, and with limbs of 0 at its end and 0 with a minus; and all of it as it is once more.
func TestFieldsCountForNothing(t *testing.T) {
	tight := func(a api.Int) api.Int { return form(whole(a)) }
	loose := func(a api.Int) api.Int {
		return api.Int{Neg: a.Neg || whole(a).Sign() == 0, Mag: slices.Concat(a.Mag, []uint32{0, 0})}
	}
	everywhere(func(name string, call func(g given) answers, g given) {
		out := call(g)
		if !same(out, call(g)) || !same(out, call(g.changed(tight))) || !same(out, call(g.changed(loose))) {
			t.Errorf("%s: other fields, other answers: %v", name, g)
		}
	})
}

// TestAnswersAreInOneForm: no limb of 0 stands at an end, and 0 has no minus.
func TestAnswersAreInOneForm(t *testing.T) {
	everywhere(func(name string, call func(g given) answers, g given) {
		out := call(g)
		for _, a := range append(slices.Concat(out.rows...), out.number) {
			if !alike(a, form(whole(a))) {
				t.Errorf("%s: %v is not in one form", name, a)
			}
		}
	})
}

// TestOneListInAllPlaces: what is handed in may be one list in all its places.
func TestOneListInAllPlaces(t *testing.T) {
	two := num(false, 2)
	for n := range 4 {
		row := slices.Repeat([]api.Int{two}, n)
		shared := given{slices.Repeat(rows(row), n), row}
		for name, call := range calls() {
			if !same(call(shared), call(roomy(shared))) {
				t.Errorf("%s of one list in all places: %v", name, call(shared))
			}
		}
	}
}
