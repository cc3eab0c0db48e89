package filter_test

import (
	"math/rand"
	"reflect"
	"runtime/debug"
	"slices"
	"testing"
	"unsafe"

	"trammel/api"
	"trammel/filter"
)

// The rules that hold everywhere, P1 to P5, at every call.

// given is what calls are handed.
type given struct {
	g api.Gso
	t []api.Rat
	x []api.Int
	r api.Rat
}

// answers is what a call answers.
type answers struct {
	rats []api.Rat
	ints []api.Int
	i    api.Ival
	k    int
	is   bool
	e    api.Errno
}

func ratio(r api.Rat, e api.Errno) answers { return answers{rats: []api.Rat{r}, e: e} }

// over makes a filter and asks it; what New refuses is its answer.
func over(g given, ask func(f *filter.Filter) answers) answers {
	f, e := filter.New(g.g, g.t)
	if e != api.OK {
		return answers{is: f != nil, e: e}
	}
	return ask(f)
}

func calls() map[string]func(g given) answers {
	return map[string]func(g given) answers{
		"Norm":   func(g given) answers { return ratio(filter.Norm(g.g, g.t, g.x)) },
		"Centre": func(g given) answers { return ratio(filter.Centre(g.g, g.t, g.x)) },
		"Range": func(g given) answers {
			a, b, is, e := filter.Range(g.g, g.t, g.x, g.r)
			return answers{ints: []api.Int{a, b}, is: is, e: e}
		},
		"Enclose": func(g given) answers {
			return over(g, func(f *filter.Filter) answers {
				i, e := f.Enclose(g.x)
				return answers{i: i, e: e}
			})
		},
		"Test": func(g given) answers {
			return over(g, func(f *filter.Filter) answers {
				k, e := f.Test(g.x, g.r)
				return answers{k: k, e: e}
			})
		},
		"Decide": func(g given) answers {
			return over(g, func(f *filter.Filter) answers {
				is, e := f.Decide(g.x, g.r)
				return answers{is: is, e: e}
			})
		},
	}
}

// everything is much that may be handed in, also what can't be.
func everything() []given {
	r := rand.New(rand.NewSource(101))
	out := []given{}
	for _, s := range subjects(102) {
		m := modelOf(s)
		for _, x := range append(suffixes(r, min(m.n, 3)), drawVector(r, m.n, digit), make([]api.Int, m.n+1)) {
			bound := q(1, 2)
			if len(x) <= m.n {
				bound = bounds(m.norm(x))[r.Intn(8)]
			}
			out = append(out, given{s.g, s.t, x, bound})
		}
		out = append(out, given{s.g, s.t, nil, unfitRats()[r.Intn(6)]}, given{s.g, unfitRats()[:1], nil, q(1, 1)})
	}
	for _, g := range unfit() {
		out = append(out, given{g, nil, nil, q(1, 1)}, given{g, unfitRats(), vec(1, 2), q(1, 0)})
	}
	return out
}

// everywhere calls f at every call with all of it, made anew each time.
func everywhere(f func(name string, call func(g given) answers, g given)) {
	all := everything()
	for name, call := range calls() {
		for _, g := range all {
			f(name, call, roomy(g))
		}
	}
}

// ahead is a list with room behind its end that a call must leave as it is.
func ahead[T any](l []T, rest ...T) []T {
	return slices.Concat(l, rest)[:len(l)]
}

func roomyNumber(a api.Int) api.Int {
	return api.Int{Neg: a.Neg, Mag: ahead(a.Mag, 0xdead, 0xbeef)}
}

func roomyRat(r api.Rat) api.Rat {
	return api.Rat{Num: roomyNumber(r.Num), Den: roomyNumber(r.Den)}
}

func roomyVector(v []api.Int) []api.Int {
	out := []api.Int{}
	for _, a := range v {
		out = append(out, roomyNumber(a))
	}
	return ahead(out, num(true, 0xfeed), num(false, 0, 0))
}

func roomy(g given) given {
	h := given{r: roomyRat(g.r), x: roomyVector(g.x)}
	rats := []api.Rat{}
	for _, r := range g.t {
		rats = append(rats, roomyRat(r))
	}
	h.t = ahead(rats, q(1, 0))
	list := [][]api.Int{}
	for _, row := range g.g.L {
		list = append(list, roomyVector(row))
	}
	h.g = api.Gso{D: roomyVector(g.g.D), L: ahead(list, vec(1, 2, 3))}
	return h
}

// lists is all that was handed in, as rows.
func (g given) lists() [][]api.Int {
	out := rows(g.g.D, g.x, []api.Int{g.r.Num, g.r.Den})
	for _, r := range g.t[:cap(g.t)] {
		out = append(out, []api.Int{r.Num, r.Den})
	}
	return slices.Concat(out, g.g.L[:cap(g.g.L)])
}

// deep is all lists with the room behind their ends, all of it new.
func deep(b [][]api.Int) [][]api.Int {
	out := slices.Clone(b)
	for i, row := range out {
		out[i] = slices.Clone(row[:cap(row)])
		for j, a := range out[i] {
			out[i][j].Mag = slices.Clone(a.Mag[:cap(a.Mag)])
		}
	}
	return out
}

func TestArgumentsStay(t *testing.T) {
	everywhere(func(name string, call func(g given) answers, g given) {
		before := deep(g.lists())
		call(g)
		if !reflect.DeepEqual(before, deep(g.lists())) {
			t.Errorf("%s changed an argument: %v", name, before)
		}
	})
}

// span is the memory of a list, its room with it.
type span struct{ from, to uintptr }

func spanOf(l []uint32) span {
	from := uintptr(unsafe.Pointer(unsafe.SliceData(l)))
	return span{from, from + 4*uintptr(cap(l))}
}

func (a answers) numbers() []api.Int {
	out := slices.Clone(a.ints)
	for _, r := range a.rats {
		out = append(out, r.Num, r.Den)
	}
	return out
}

func spans(l []api.Int) []span {
	out := []span{}
	for _, a := range l {
		out = append(out, spanOf(a.Mag))
	}
	return out
}

func TestAnswersAreNew(t *testing.T) {
	everywhere(func(name string, call func(g given) answers, g given) {
		// What the first answer has given up must not come back in the second one.
		defer debug.SetGCPercent(debug.SetGCPercent(-1))
		fresh := spans(call(g).numbers())
		others := spans(call(g).numbers())
		for _, l := range g.lists() {
			others = append(others, spans(l[:cap(l)])...)
		}
		for i, s := range fresh {
			for _, o := range slices.Concat(fresh[:i], others) {
				if s.from < s.to && o.from < o.to && s.from < o.to && o.from < s.to {
					t.Errorf("%s: two lists share memory", name)
				}
			}
		}
	})
}

// scribble writes over all that was handed in, room and all.
func scribble(g given) {
	for _, l := range g.lists() {
		l = l[:cap(l)]
		for i := range l {
			mag := l[i].Mag[:cap(l[i].Mag)]
			for j := range mag {
				mag[j] ^= 0x5a5a5a5a
			}
			l[i] = num(true, 77)
		}
	}
	for i := range g.t {
		g.t[i] = q(1, 0)
	}
	for i := range g.g.L {
		g.g.L[i] = nil
	}
}

// TestFiltersKeepNothing: a filter goes on as before, whatever becomes of what it was given, ahead of the first question and behind it.
func TestFiltersKeepNothing(t *testing.T) {
	r := rand.New(rand.NewSource(103))
	for _, s := range subjects(104) {
		m := modelOf(s)
		g := roomy(given{s.g, s.t, nil, q(1, 1)})
		f := made(t, subject{g.g, g.t})
		scribble(g)
		for _, x := range suffixes(r, min(m.n, 4)) {
			bound := bounds(m.norm(x))[0]
			h := roomy(given{x: x, r: bound})
			i, _ := f.Enclose(h.x)
			is, _ := f.Decide(h.x, h.r)
			scribble(h)
			if !equal(i, m.interval(x)) || !is {
				t.Errorf("%v: %v, %v", x, i, is)
			}
		}
	}
}

func same(a, b answers) bool {
	return slices.EqualFunc(a.numbers(), b.numbers(), alike) && equal(a.i, b.i) && a.k == b.k && a.is == b.is && a.e == b.e
}

// changed is the same with every number's fields made by f.
func (g given) changed(f func(a api.Int) api.Int) given {
	list := func(l []api.Int) []api.Int {
		out := []api.Int{}
		for _, a := range l {
			out = append(out, f(a))
		}
		return out
	}
	h := given{g: api.Gso{D: list(g.g.D)}, x: list(g.x), r: api.Rat{Num: f(g.r.Num), Den: f(g.r.Den)}}
	for _, row := range g.g.L {
		h.g.L = append(h.g.L, list(row))
	}
	for _, r := range g.t {
		h.t = append(h.t, api.Rat{Num: f(r.Num), Den: f(r.Den)})
	}
	return h
}

// TestFieldsCountForNothing gives each number in one form, and with limbs of 0 at its end and 0 with a minus; and all of it as it is once more.
func TestFieldsCountForNothing(t *testing.T) {
	tight := func(a api.Int) api.Int { return form(whole(a)) }
	wide := func(a api.Int) api.Int {
		return api.Int{Neg: a.Neg || whole(a).Sign() == 0, Mag: slices.Concat(a.Mag, []uint32{0, 0})}
	}
	everywhere(func(name string, call func(g given) answers, g given) {
		out := call(g)
		if !same(out, call(g)) || !same(out, call(g.changed(tight))) || !same(out, call(g.changed(wide))) {
			t.Errorf("%s: other fields, other answers: %v", name, g)
		}
	})
}

// TestNilAndEmptyAreTheSame: as a target, a suffix, and the first list of L.
func TestNilAndEmptyAreTheSame(t *testing.T) {
	for _, g := range everything() {
		h := g
		if len(g.t) == 0 {
			h.t = []api.Rat{}
			g.t = nil
		}
		if len(g.x) == 0 {
			h.x = []api.Int{}
			g.x = nil
		}
		if len(g.g.L) > 0 && len(g.g.L[0]) == 0 {
			g.g.L, h.g.L = slices.Clone(g.g.L), slices.Clone(g.g.L)
			g.g.L[0], h.g.L[0] = nil, []api.Int{}
		}
		for name, call := range calls() {
			if !same(call(g), call(h)) {
				t.Errorf("%s: nil and empty differ: %v", name, g)
			}
		}
	}
}

// TestOneListInAllPlaces: what is handed in may be one list in all its places.
func TestOneListInAllPlaces(t *testing.T) {
	two := num(false, 2)
	row := []api.Int{two, two, two}
	g := api.Gso{D: []api.Int{num(false, 1), two, two, two}, L: rows(nil, row[:1], row[:2])}
	r := api.Rat{Num: two, Den: two}
	for m := range 4 {
		shared := given{g: g, t: slices.Repeat([]api.Rat{r}, 3), x: row[:m], r: r}
		for name, call := range calls() {
			if !same(call(shared), call(roomy(shared))) {
				t.Errorf("%s of one list in all places: %v", name, call(shared))
			}
		}
	}
}
