package herm_test

import (
	"math/rand"
	"reflect"
	"slices"
	"testing"
	"unsafe"

	"trammel/api"
	"trammel/herm"
)

// The rules that hold everywhere, P1 to P5, at every call.

// given is what calls are handed.
type given struct {
	a, b [][]api.Int
	v    []api.Int
}

// answers is what a call answers: its two matrices, of which the first may be its one list, its number, and all else.
type answers struct {
	rows, by [][]api.Int
	number   api.Int
	is       bool
	e        api.Errno
}

// lists are the calls that answer one list.
func isList(name string) bool { return name == "Smith" || name == "Rest" }

func calls() map[string]func(g given) answers {
	matrix := func(b [][]api.Int, e api.Errno) answers { return answers{rows: b, e: e} }
	list := func(l []api.Int, e api.Errno) answers { return answers{rows: rows(l), e: e} }
	yes := func(is bool, e api.Errno) answers { return answers{is: is, e: e} }
	return map[string]func(g given) answers{
		"Form": func(g given) answers {
			h, u, e := herm.Form(g.b)
			return answers{rows: h, by: u, e: e}
		},
		"Basis":  func(g given) answers { return matrix(herm.Basis(g.b)) },
		"Kernel": func(g given) answers { return matrix(herm.Kernel(g.b)) },
		"Smith":  func(g given) answers { return list(herm.Smith(g.b)) },
		"Member": func(g given) answers { return yes(herm.Member(g.b, g.v)) },
		"Rest":   func(g given) answers { return list(herm.Rest(g.b, g.v)) },
		"Same":   func(g given) answers { return yes(herm.Same(g.a, g.b)) },
		"Within": func(g given) answers { return yes(herm.Within(g.a, g.b)) },
		"Join":   func(g given) answers { return matrix(herm.Join(g.a, g.b)) },
		"Meet":   func(g given) answers { return matrix(herm.Meet(g.a, g.b)) },
		"Index": func(g given) answers {
			n, e := herm.Index(g.a, g.b)
			return answers{number: n, e: e}
		},
	}
}

// everywhere calls f at every call with much that may be handed in, also what can't be, made anew each time.
func everywhere(f func(name string, call func(g given) answers, g given)) {
	r := rand.New(rand.NewSource(51))
	all := []given{}
	for i, c := range couples(52) {
		if i%3 == 0 {
			all = append(all, given{c.a, c.b, combined(drawVector(r, len(c.b), digit), c.b, c.width)}, given{c.a, c.b, drawVector(r, c.width, long(2))})
		}
	}
	for _, b := range slices.Concat(shapeless()[:5], [][][]api.Int{nil, rows(nil), rows(vec(-2)), rows(vec(0, -1), vec(3, 0)), blank(1, 65), blank(65, 1)}) {
		all = append(all, given{unit(2), b, vec(1, 2)}, given{a: b, b: unit(2)}, given{b: b}, given{a: b})
	}
	for name, call := range calls() {
		for _, g := range all {
			f(name, call, roomy(g))
		}
	}
}

// behind is a list with room behind its end that a call must leave as it is.
func behind[T any](l []T, rest ...T) []T {
	return slices.Concat(l, rest)[:len(l)]
}

func roomyVector(v []api.Int) []api.Int {
	out := []api.Int{}
	for _, a := range v {
		out = append(out, api.Int{Neg: a.Neg, Mag: behind(a.Mag, 0xdead, 0xbeef)})
	}
	return behind(out, num(true, 0xfeed), num(false, 0, 0))
}

func roomyRows(b [][]api.Int) [][]api.Int {
	out := [][]api.Int{}
	for _, row := range b {
		out = append(out, roomyVector(row))
	}
	return behind(out, vec(1, 2, 3))
}

func roomy(g given) given {
	return given{roomyRows(g.a), roomyRows(g.b), roomyVector(g.v)}
}

// lists is all that was handed in, with the room behind ends, all of it new.
func (g given) lists() [][]api.Int {
	out := slices.Concat(g.a[:cap(g.a)], g.b[:cap(g.b)], rows(g.v))
	for i, row := range out {
		out[i] = slices.Clone(row[:cap(row)])
		for j, a := range out[i] {
			out[i][j].Mag = slices.Clone(a.Mag[:cap(a.Mag)])
		}
	}
	return out
}

func TestArgumentsStay(t *testing.T) {
	everywhere(func(name string, call func(g given) answers, g given) {
		before := g.lists()
		call(g)
		if !reflect.DeepEqual(before, g.lists()) {
			t.Errorf("%s changed an argument: %v", name, before)
		}
	})
}

// span is the memory of a list, its room with it.
type span struct{ from, to uintptr }

func spanOf[T any](l []T) span {
	from := uintptr(unsafe.Pointer(unsafe.SliceData(l)))
	return span{from, from + uintptr(cap(l))*unsafe.Sizeof(*new(T))}
}

// spans is the memory of all lists of a matrix, those in the room behind an end too.
func spans(b [][]api.Int) []span {
	out := []span{spanOf(b)}
	for _, row := range b[:cap(b)] {
		out = append(out, spanOf(row))
		for _, a := range row[:cap(row)] {
			out = append(out, spanOf(a.Mag))
		}
	}
	return out
}

func (a answers) spans() []span {
	return slices.Concat(spans(a.rows), spans(a.by), []span{spanOf(a.number.Mag)})
}

func TestAnswersAreNew(t *testing.T) {
	everywhere(func(name string, call func(g given) answers, g given) {
		one, other := call(g), call(g)
		fresh := one.spans()
		old := slices.Concat(spans(g.a), spans(g.b), spans(rows(g.v)), other.spans())
		for i, s := range fresh {
			for _, o := range slices.Concat(fresh[:i], old) {
				if s.from < s.to && o.from < o.to && s.from < o.to && o.from < s.to {
					t.Fatalf("%s(%v): two lists share memory", name, g)
				}
			}
		}
	})
}

// TestRowsDoNotGrowIntoEachOther: one may append to each list of an answer.
func TestRowsDoNotGrowIntoEachOther(t *testing.T) {
	everywhere(func(name string, call func(g given) answers, g given) {
		out, sure := call(g), call(g)
		for _, row := range slices.Concat(out.rows, out.by) {
			_ = append(row, num(true, 77), num(true, 78))
		}
		if !same(out, sure) {
			t.Errorf("%s: a row grew into another one: %v", name, out)
		}
	})
}

// same: the same answers, field by field, but for nil and empty lists.
func same(x, y answers) bool {
	return alikeRows(x.rows, y.rows) && alikeRows(x.by, y.by) && alike(x.number, y.number) && x.is == y.is && x.e == y.e
}

// TestZeroBesideAnError: nothing is answered beside an error.
func TestZeroBesideAnError(t *testing.T) {
	refused := map[string]int{}
	everywhere(func(name string, call func(g given) answers, g given) {
		out := call(g)
		if out.e == api.OK {
			return
		}
		refused[name]++
		if len(slices.Concat(out.rows...)) != 0 || len(out.by) != 0 || !alike(out.number, api.Int{}) || out.is {
			t.Errorf("%s: %v beside an error", name, out)
		}
		if len(out.rows) != 0 && !isList(name) {
			t.Errorf("%s: %d rows beside an error", name, len(out.rows))
		}
	})
	for name := range calls() {
		if refused[name] == 0 {
			t.Errorf("%s was never refused", name)
		}
	}
}

// changed is all that was handed in, each number by its other fields; empty lists are nil.
func (g given) changed(f func(a api.Int) api.Int) given {
	list := func(v []api.Int) []api.Int {
		var out []api.Int
		for _, a := range v {
			out = append(out, f(a))
		}
		return out
	}
	matrix := func(b [][]api.Int) [][]api.Int {
		var out [][]api.Int
		for _, row := range b {
			out = append(out, list(row))
		}
		return out
	}
	return given{matrix(g.a), matrix(g.b), list(g.v)}
}

// TestFieldsCountForNothing gives each number in one form, and with limbs of 0 at its end and 0 with a minus; and all of it as it is once more.
func TestFieldsCountForNothing(t *testing.T) {
	tight := func(a api.Int) api.Int { return form(whole(a)) }
	loose := func(a api.Int) api.Int {
		return api.Int{Neg: a.Neg || whole(a).Sign() == 0, Mag: slices.Concat(a.Mag, []uint32{0, 0})}
	}
	everywhere(func(name string, call func(g given) answers, g given) {
		out := call(g)
		if !same(out, call(g)) || !same(out, call(g.changed(tight))) || !same(out, call(g.changed(loose))) {
			t.Errorf("%s: other fields, other answers: %v", name, g)
		}
	})
}

// TestAnswersAreInOneForm: no limb of 0 stands at an end, and 0 has no minus.
func TestAnswersAreInOneForm(t *testing.T) {
	everywhere(func(name string, call func(g given) answers, g given) {
		out := call(g)
		for _, a := range append(slices.Concat(slices.Concat(out.rows, out.by)...), out.number) {
			if !alike(a, form(whole(a))) {
				t.Errorf("%s: %v is not in one form", name, a)
			}
		}
	})
}

// TestOneListInAllPlaces: what is handed in may be one list in all its places, and one matrix both.
func TestOneListInAllPlaces(t *testing.T) {
	two := num(false, 2)
	for n := range 4 {
		row := slices.Repeat([]api.Int{two}, n)
		b := slices.Repeat(rows(row), n)
		shared := given{b, b, row}
		for name, call := range calls() {
			if !same(call(shared), call(roomy(shared))) {
				t.Errorf("%s of one list in all places: %v", name, call(shared))
			}
		}
	}
}
