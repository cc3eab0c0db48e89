package gso_test

import (
	"math/rand"
	"reflect"
	"runtime/debug"
	"slices"
	"testing"
	"unsafe"

	"trammel/api"
	"trammel/gso"
)

// The rules that hold everywhere, P1 to P5, at every call.

// given is what calls are handed.
type given struct {
	b    [][]api.Int
	g    api.Gso
	t    []api.Rat
	x    []api.Int
	q    api.Int
	i, j int
}

// answers is what a call answers: its numbers, where the list of its lists or rationals lies, and its error.
type answers struct {
	rows [][]api.Int
	rats []api.Rat
	at   span
	e    api.Errno
}

func data(g api.Gso, e api.Errno) answers {
	return answers{rows: append(rows(g.D), g.L...), at: spanOf(g.L), e: e}
}
func ratio(r api.Rat, e api.Errno) answers { return answers{rats: []api.Rat{r}, e: e} }
func coords(c []api.Rat, d api.Rat, e api.Errno) answers {
	return answers{rats: append(slices.Clone(c), d), at: spanOf(c), e: e}
}

func calls() map[string]func(g given) answers {
	return map[string]func(g given) answers{
		"Valid":  func(g given) answers { return answers{e: gso.Valid(g.b)} },
		"Of":     func(g given) answers { return data(gso.Of(g.b)) },
		"Wide":   func(g given) answers { return data(gso.Wide(g.b)) },
		"Mu":     func(g given) answers { return ratio(gso.Mu(g.g, g.i, g.j)) },
		"Star":   func(g given) answers { return ratio(gso.Star(g.g, g.i)) },
		"AddRow": func(g given) answers { return data(gso.AddRow(g.g, g.i, g.j, g.q)) },
		"Swap":   func(g given) answers { return data(gso.Swap(g.g, g.i)) },
		"Norm":   func(g given) answers { return ratio(gso.Norm(g.g, g.x)) },
		"Coords": func(g given) answers { return coords(gso.Coords(g.b, g.t)) },
	}
}

// everything is much that may be handed in, also what can't be.
func everything() []given {
	r := rand.New(rand.NewSource(61))
	out := []given{}
	allB := append(bases(62), nil, rows(nil), rows(vec(1, 2), vec(2, 4)), rows(vec(1), vec(1, 2)), rows([]api.Int{power(300, 0)}))
	for _, b := range allB {
		width := 0
		if len(b) > 0 {
			width = len(b[0])
		}
		out = append(out, given{b: b, t: drawTarget(r, width, 2)}, given{b: b, t: slices.Repeat(noRats()[3:4], width)}, given{b: b})
	}
	for _, g := range slices.Concat(datas(63), unfit()) {
		n := len(g.L)
		for i := -1; i <= n; i++ {
			for j := -1; j <= i; j++ {
				out = append(out, given{g: g, i: i, j: j, x: drawVector(r, n, long(2)), q: draw(r, 2)})
			}
		}
		out = append(out, given{g: g, x: drawVector(r, n+1, digit)})
	}
	return out
}

// everywhere calls f at every call with all of it, made anew each time.
func everywhere(f func(name string, call func(g given) answers, g given)) {
	all := everything()
	for name, call := range calls() {
		for _, g := range all {
			f(name, call, roomy(g))
		}
	}
}

// ahead is a list with room behind its end that a call must leave as it is.
func ahead[T any](l []T, rest ...T) []T {
	return slices.Concat(l, rest)[:len(l)]
}

func roomyNumber(a api.Int) api.Int {
	return api.Int{Neg: a.Neg, Mag: ahead(a.Mag, 0xdead, 0xbeef)}
}

func roomyVector(v []api.Int) []api.Int {
	out := []api.Int{}
	for _, a := range v {
		out = append(out, roomyNumber(a))
	}
	return ahead(out, num(true, 0xfeed), num(false, 0, 0))
}

func roomyRows(b [][]api.Int) [][]api.Int {
	out := [][]api.Int{}
	for _, row := range b {
		out = append(out, roomyVector(row))
	}
	return ahead(out, vec(1, 2, 3))
}

func roomy(g given) given {
	rats := []api.Rat{}
	for _, r := range g.t {
		rats = append(rats, api.Rat{Num: roomyNumber(r.Num), Den: roomyNumber(r.Den)})
	}
	g.b, g.x, g.q, g.t = roomyRows(g.b), roomyVector(g.x), roomyNumber(g.q), ahead(rats, q(1, 0))
	g.g = api.Gso{D: roomyVector(g.g.D), L: roomyRows(g.g.L)}
	return g
}

// lists is all that was handed in, as rows.
func (g given) lists() [][]api.Int {
	out := rows(g.g.D, g.x, []api.Int{g.q})
	for _, r := range g.t[:cap(g.t)] {
		out = append(out, []api.Int{r.Num, r.Den})
	}
	return slices.Concat(out, g.b[:cap(g.b)], g.g.L[:cap(g.g.L)])
}

// deep is all lists with the room behind their ends, all of it new.
func deep(b [][]api.Int) [][]api.Int {
	out := slices.Clone(b)
	for i, row := range out {
		out[i] = slices.Clone(row[:cap(row)])
		for j, a := range out[i] {
			out[i][j].Mag = slices.Clone(a.Mag[:cap(a.Mag)])
		}
	}
	return out
}

func TestArgumentsStay(t *testing.T) {
	everywhere(func(name string, call func(g given) answers, g given) {
		before := deep(g.lists())
		call(g)
		if !reflect.DeepEqual(before, deep(g.lists())) {
			t.Errorf("%s changed an argument: %v", name, before)
		}
	})
}

// span is the memory of a list, its room with it.
type span struct{ from, to uintptr }

func spanOf[T any](l []T) span {
	from := uintptr(unsafe.Pointer(unsafe.SliceData(l)))
	return span{from, from + uintptr(cap(l))*unsafe.Sizeof(*new(T))}
}

// spans is the memory of all lists, those in the room behind an end too.
func spans(b [][]api.Int) []span {
	out := []span{}
	for _, row := range b {
		out = append(out, spanOf(row))
		for _, a := range row[:cap(row)] {
			out = append(out, spanOf(a.Mag))
		}
	}
	return out
}

func (a answers) spans() []span {
	out := append(spans(a.rows), a.at)
	for _, r := range a.rats {
		out = append(out, spanOf(r.Num.Mag), spanOf(r.Den.Mag))
	}
	return out
}

func TestAnswersAreNew(t *testing.T) {
	everywhere(func(name string, call func(g given) answers, g given) {
		// What the first answer has given up must not come back in the second one.
		defer debug.SetGCPercent(debug.SetGCPercent(-1))
		all := call(g).spans()
		fresh := len(all)
		all = slices.Concat(all, spans(g.lists()), []span{spanOf(g.b), spanOf(g.g.L), spanOf(g.t)}, call(g).spans())
		for i, s := range all[:fresh] {
			for _, o := range slices.Concat(all[:i], all[fresh:]) {
				if s.from < s.to && o.from < o.to && s.from < o.to && o.from < s.to {
					t.Errorf("%s: two lists share memory", name)
				}
			}
		}
	})
}

// TestRowsDoNotGrowIntoEachOther: one may append to each list of an answer.
func TestRowsDoNotGrowIntoEachOther(t *testing.T) {
	for _, b := range bases(64) {
		g, _ := gso.Of(b)
		all := []api.Gso{g}
		for i := 1; i < len(b); i++ {
			h, _ := gso.Swap(g, i)
			k, _ := gso.AddRow(g, i, 0, num(false, 1))
			all = append(all, h, k)
		}
		for _, h := range all {
			before := inForm(h)
			for _, row := range append(slices.Clone(h.L), h.D) {
				_ = append(row, num(true, 77))
			}
			wantData(t, "appended", h, before)
		}
	}
}

// TestZeroBesideAnError: nothing is answered beside an error.
func TestZeroBesideAnError(t *testing.T) {
	refused := map[string]int{}
	everywhere(func(name string, call func(g given) answers, g given) {
		out := call(g)
		if out.e == api.OK {
			return
		}
		refused[name]++
		for _, row := range out.rows {
			if len(row) != 0 {
				t.Errorf("%s: %v beside an error", name, out.rows)
			}
		}
		for _, r := range out.rats {
			none(t, name, r)
		}
	})
	for name := range calls() {
		if refused[name] == 0 {
			t.Errorf("%s was never refused", name)
		}
	}
}

// same: the same answers, field by field, but for nil and empty lists.
func same(x, y answers) bool {
	rats := func(a, b api.Rat) bool { return alike(a.Num, b.Num) && alike(a.Den, b.Den) }
	return slices.EqualFunc(x.rows, y.rows, alikeLists) && slices.EqualFunc(x.rats, y.rats, rats) && x.e == y.e
}

// changed is all that was handed in, each number by its other fields; empty lists are nil.
func (g given) changed(f func(a api.Int) api.Int) given {
	list := func(v []api.Int) []api.Int {
		var out []api.Int
		for _, a := range v {
			out = append(out, f(a))
		}
		return out
	}
	table := func(b [][]api.Int) [][]api.Int {
		var out [][]api.Int
		for _, row := range b {
			out = append(out, list(row))
		}
		return out
	}
	var rats []api.Rat
	for _, r := range g.t {
		rats = append(rats, api.Rat{Num: f(r.Num), Den: f(r.Den)})
	}
	return given{b: table(g.b), g: api.Gso{D: list(g.g.D), L: table(g.g.L)}, t: rats, x: list(g.x), q: f(g.q), i: g.i, j: g.j}
}

// TestFieldsCountForNothing gives each number in one form, and with limbs of 0 at its end and 0 with a minus; and all of it as it is once more.
func TestFieldsCountForNothing(t *testing.T) {
	tight := func(a api.Int) api.Int { return form(whole(a)) }
	wide := func(a api.Int) api.Int {
		return api.Int{Neg: a.Neg || whole(a).Sign() == 0, Mag: slices.Concat(a.Mag, []uint32{0, 0})}
	}
	everywhere(func(name string, call func(g given) answers, g given) {
		out := call(g)
		if !same(out, call(g)) || !same(out, call(g.changed(tight))) || !same(out, call(g.changed(wide))) {
			t.Errorf("%s: other fields, other answers: %v", name, g)
		}
	})
}

// TestAnswersAreInOneForm: no limb of 0 stands at an end, and 0 has no minus.
func TestAnswersAreInOneForm(t *testing.T) {
	everywhere(func(name string, call func(g given) answers, g given) {
		out := call(g)
		all := slices.Concat(out.rows...)
		for _, r := range out.rats {
			all = append(all, r.Num, r.Den)
		}
		for _, a := range all {
			if !alike(a, form(whole(a))) {
				t.Errorf("%s: %v is not in one form", name, a)
			}
		}
	})
}

// TestOneListInAllPlaces: what is handed in may be one list in all its places.
func TestOneListInAllPlaces(t *testing.T) {
	two := num(false, 2)
	row := []api.Int{two, two, two}
	g := api.Gso{D: []api.Int{num(false, 1), two, two, two}, L: rows(nil, row[:1], row[:2])}
	shared := given{b: rows(row), g: g, t: slices.Repeat([]api.Rat{{Num: two, Den: two}}, 3), x: row, q: two, i: 2, j: 1}
	for name, call := range calls() {
		if !same(call(shared), call(roomy(shared))) {
			t.Errorf("%s of one list in all places: %v", name, call(shared))
		}
	}
}
