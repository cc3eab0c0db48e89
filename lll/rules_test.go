package lll_test

import (
	"math"
	"reflect"
	"slices"
	"testing"
	"unsafe"

	"trammel/api"
	"trammel/lll"
)

// The rules that hold everywhere, P1 to P5, at every call.

// given is what calls are handed.
type given struct {
	b    [][]api.Int
	r    api.Reduced
	most int
}

// answers is what a call answers: up to three matrices, a list, and all else.
type answers struct {
	rows [3][][]api.Int
	list []int
	is   bool
	many int
	e    api.Errno
}

func calls() map[string]func(g given) answers {
	return map[string]func(g given) answers{
		"Reduce": func(g given) answers {
			r, e := lll.Reduce(g.b)
			return answers{rows: [3][][]api.Int{r.B, r.U, r.V}, many: r.Swaps, e: e}
		},
		"Is": func(g given) answers {
			is, e := lll.Is(g.b)
			return answers{is: is, e: e}
		},
		"Sizes": func(g given) answers {
			b, e := lll.Sizes(g.b)
			return answers{rows: [3][][]api.Int{b}, e: e}
		},
		"Check": func(g given) answers {
			is, e := lll.Check(g.b, g.r)
			return answers{is: is, e: e}
		},
		"Steps": func(g given) answers {
			l, e := lll.Steps(g.b, g.most)
			return answers{list: l, e: e}
		},
	}
}

// everything is much that may be handed in, also what can't be.
func everything() []given {
	out := []given{}
	for i, b := range bases(61) {
		r, _ := lll.Reduce(b)
		out = append(out, given{b, r, maxTold}, given{b, edited(r, i%3, nil), 1}, given{b, edited(r, i%3, bumped(placesOf(r)[i%3], 0, 0, 1)), 0}, given{b: r.B, r: results(r.B)[1], most: 2})
	}
	for _, all := range invalid() {
		for _, b := range all {
			for _, r := range results(b) {
				out = append(out, given{b, r, 3})
			}
		}
	}
	return append(out, given{}, given{b: unit(2), most: -1}, given{b: unit(2), most: math.MinInt}, given{b: unit(2), most: math.MaxInt})
}

// everywhere calls f at every call with all of it, made anew each time.
func everywhere(f func(name string, call func(g given) answers, g given)) {
	all := everything()
	for name, call := range calls() {
		for _, g := range all {
			f(name, call, g.each(roomyRows))
		}
	}
}

// each is what is handed in, with other matrices in the place of its own.
func (g given) each(f func(b [][]api.Int) [][]api.Int) given {
	return given{f(g.b), api.Reduced{B: f(g.r.B), U: f(g.r.U), V: f(g.r.V), Swaps: g.r.Swaps}, g.most}
}

func (g given) matrices() [][][]api.Int { return append(placesOf(g.r), g.b) }

// behind is a list with room behind its end that a call must leave as it is.
func behind[T any](l []T, rest ...T) []T {
	return slices.Concat(l, rest)[:len(l)]
}

func roomyRows(b [][]api.Int) [][]api.Int {
	out := [][]api.Int{}
	for _, row := range b {
		list := []api.Int{}
		for _, a := range row {
			list = append(list, api.Int{Neg: a.Neg, Mag: behind(a.Mag, 0xdead, 0xbeef)})
		}
		out = append(out, behind(list, num(true, 0xfeed), num(false, 0, 0)))
	}
	return behind(out, vec(1, 2, 3))
}

// lists is all that was handed in, with the room behind ends, all of it new.
func (g given) lists() [][]api.Int {
	out := [][]api.Int{}
	for _, b := range g.matrices() {
		out = append(out, b[:cap(b)]...)
	}
	for i, row := range out {
		out[i] = slices.Clone(row[:cap(row)])
		for j, a := range out[i] {
			out[i][j].Mag = slices.Clone(a.Mag[:cap(a.Mag)])
		}
	}
	return out
}

func TestArgumentsStay(t *testing.T) {
	everywhere(func(name string, call func(g given) answers, g given) {
		before := g.lists()
		call(g)
		if !reflect.DeepEqual(before, g.lists()) {
			t.Errorf("%s changed an argument: %v", name, before)
		}
	})
}

// span is the memory of a list, its room with it.
type span struct{ from, to uintptr }

func spanOf[T any](l []T) span {
	from := uintptr(unsafe.Pointer(unsafe.SliceData(l)))
	return span{from, from + uintptr(cap(l))*unsafe.Sizeof(*new(T))}
}

// spans is the memory of all lists of matrices, those in the room behind an end too.
func spans(all ...[][]api.Int) []span {
	out := []span{}
	for _, b := range all {
		out = append(out, spanOf(b))
		for _, row := range b[:cap(b)] {
			out = append(out, spanOf(row))
			for _, a := range row[:cap(row)] {
				out = append(out, spanOf(a.Mag))
			}
		}
	}
	return out
}

func (a answers) spans() []span { return append(spans(a.rows[:]...), spanOf(a.list)) }

func TestAnswersAreNew(t *testing.T) {
	everywhere(func(name string, call func(g given) answers, g given) {
		one, other := call(g), call(g)
		fresh := one.spans()
		old := slices.Concat(spans(g.matrices()...), other.spans())
		for i, s := range fresh {
			for _, o := range slices.Concat(fresh[:i], old) {
				if s.from < s.to && o.from < o.to && s.from < o.to && o.from < s.to {
					t.Fatalf("%s(%v): two lists share memory", name, g)
				}
			}
		}
	})
}

// same: the same answers, field by field, but for nil and empty lists.
func same(x, y answers) bool {
	for i := range x.rows {
		if !alikeRows(x.rows[i], y.rows[i]) {
			return false
		}
	}
	return slices.Equal(x.list, y.list) && x.is == y.is && x.many == y.many && x.e == y.e
}

// TestRowsDoNotGrowIntoEachOther: one may append to each list of an answer.
func TestRowsDoNotGrowIntoEachOther(t *testing.T) {
	everywhere(func(name string, call func(g given) answers, g given) {
		out, sure := call(g), call(g)
		for _, row := range slices.Concat(out.rows[:]...) {
			_ = append(row, num(true, 77), num(true, 78))
		}
		if !same(out, sure) {
			t.Errorf("%s: a row grew into another one: %v", name, out)
		}
	})
}

// TestZeroBesideAnError: nothing is answered beside an error.
func TestZeroBesideAnError(t *testing.T) {
	refused := map[string]int{}
	everywhere(func(name string, call func(g given) answers, g given) {
		out := call(g)
		if out.e == api.OK {
			return
		}
		refused[name]++
		if !same(out, answers{e: out.e}) {
			t.Errorf("%s: %v beside an error", name, out)
		}
	})
	for name := range calls() {
		if refused[name] == 0 {
			t.Errorf("%s was never refused", name)
		}
	}
}

// by is a change of matrices, number by number; empty lists are nil.
func by(f func(a api.Int) api.Int) func(b [][]api.Int) [][]api.Int {
	return func(b [][]api.Int) [][]api.Int {
		var out [][]api.Int
		for _, row := range b {
			var list []api.Int
			for _, a := range row {
				list = append(list, f(a))
			}
			out = append(out, list)
		}
		return out
	}
}

// TestFieldsCountForNothing gives each number in one form, and with limbs of 0 at its end and 0 with a minus; and all of it as it is once more.
func TestFieldsCountForNothing(t *testing.T) {
	tight := by(func(a api.Int) api.Int { return form(whole(a)) })
	loose := by(func(a api.Int) api.Int {
		return api.Int{Neg: a.Neg || whole(a).Sign() == 0, Mag: slices.Concat(a.Mag, []uint32{0, 0})}
	})
	everywhere(func(name string, call func(g given) answers, g given) {
		out := call(g)
		if !same(out, call(g)) || !same(out, call(g.each(tight))) || !same(out, call(g.each(loose))) {
			t.Errorf("%s: other fields, other answers: %v", name, g)
		}
	})
}

// TestAnswersAreInOneForm: no limb of 0 stands at an end, and 0 has no minus.
func TestAnswersAreInOneForm(t *testing.T) {
	everywhere(func(name string, call func(g given) answers, g given) {
		for _, b := range call(g).rows {
			if !alikeRows(b, forms(wholes(b))) {
				t.Errorf("%s: %v is not in one form", name, b)
			}
		}
	})
}

// TestOneListInAllPlaces: what is handed in may be one list in all its places.
func TestOneListInAllPlaces(t *testing.T) {
	one := small(1)
	row := []api.Int{one, {}, one}
	all := [][][]api.Int{unit(3), rows(row[:2], row[1:]), rows(row[:1]), rows(row, row, row)}
	for _, b := range all {
		shared := given{b, api.Reduced{B: b, U: b, V: b}, 5}
		for name, call := range calls() {
			if !same(call(shared), call(shared.each(roomyRows))) {
				t.Errorf("%s of one list in all places: %v", name, call(shared))
			}
		}
	}
}
