package pool_test

import (
	"cmp"
	"math/big"
	"math/rand"
	"reflect"
	"runtime/debug"
	"slices"
	"sync"
	"testing"
	"unsafe"

	"trammel/api"
	"trammel/pool"
)

// The rules that hold everywhere, P1 to P5, at every call.

// given is what calls are handed.
type given struct {
	tr     api.Tree
	nought bool
	o      api.Opt
	a, b   []api.Int
}

// answers is what a call answers.
type answers struct {
	l []api.Found
	n int
	e api.Errno
}

func calls() map[string]func(g given) answers {
	return map[string]func(g given) answers{
		"Valid": func(g given) answers {
			return answers{e: pool.Valid(g.o)}
		},
		"Within": func(g given) answers {
			l, e := pool.Within(g.tr, g.o)
			return answers{l: l, e: e}
		},
		"Nearest": func(g given) answers {
			l, e := pool.Nearest(g.tr, g.nought, g.o)
			return answers{l: l, e: e}
		},
		"Size": func(g given) answers {
			n, e := pool.Size(g.tr, g.o)
			return answers{n: n, e: e}
		},
		"Order": func(g given) answers {
			return answers{n: pool.Order(g.a, g.b)}
		},
	}
}

// everything is much that may be handed in, also what can't be. Some trees have big numbers, and few nodes all the same; of few a budget is too small, where one worker alone comes on it.
func everything(t *testing.T) []given {
	t.Helper()
	r := rand.New(rand.NewSource(101))
	out := []given{}
	for i, p := range fewPlans(t, 102, 20) {
		g := given{tr: p.tr, nought: r.Intn(2) == 0, o: oneWay(r, max(1, len(p.nodes)))}
		if i%5 == 0 {
			g.o = api.Opt{Workers: 1, Budget: max(1, len(p.nodes)/2), Filter: g.o.Filter}
		}
		g.a, g.b = drawVector(r, r.Intn(4), digit), drawVector(r, r.Intn(4), long(2))
		out = append(out, g)
	}
	for _, tr := range unfitTrees() {
		out = append(out, given{tr, true, oneWay(r, 9), vec(1), vec(1, 2)})
	}
	for _, o := range wrongWays() {
		out = append(out, given{square(t), false, o, nil, vec(0)})
	}
	return out
}

// everywhere calls f at every call with all of it, made anew each time.
func everywhere(t *testing.T, f func(name string, call func(g given) answers, g given)) {
	t.Helper()
	all := everything(t)
	for name, call := range calls() {
		for _, g := range all {
			f(name, call, roomy(g))
		}
	}
}

// ahead is a list with room behind its end that a call must leave as it is.
func ahead[T any](l []T, rest ...T) []T {
	return slices.Concat(l, rest)[:len(l)]
}

func roomyNumber(a api.Int) api.Int {
	return api.Int{Neg: a.Neg, Mag: ahead(a.Mag, 0xdead, 0xbeef)}
}

func roomyRat(r api.Rat) api.Rat {
	return api.Rat{Num: roomyNumber(r.Num), Den: roomyNumber(r.Den)}
}

func roomyVector(v []api.Int) []api.Int {
	out := []api.Int{}
	for _, a := range v {
		out = append(out, roomyNumber(a))
	}
	return ahead(out, num(true, 0xfeed), num(false, 0, 0))
}

func roomyRows(l [][]api.Int) [][]api.Int {
	out := rows()
	for _, row := range l {
		out = append(out, roomyVector(row))
	}
	return ahead(out, vec(1, 2, 3))
}

func roomy(g given) given {
	rats := []api.Rat{}
	for _, r := range g.tr.T {
		rats = append(rats, roomyRat(r))
	}
	g.a, g.b = roomyVector(g.a), roomyVector(g.b)
	g.tr = api.Tree{
		G: api.Gso{D: roomyVector(g.tr.G.D), L: roomyRows(g.tr.G.L)},
		T: ahead(rats, q(1, 0)),
		R: roomyRat(g.tr.R),
	}
	return g
}

// lists is all numbers that were handed in, as rows.
func (g given) lists() [][]api.Int {
	out := rows(g.tr.G.D, []api.Int{g.tr.R.Num, g.tr.R.Den}, g.a, g.b)
	for _, r := range g.tr.T[:cap(g.tr.T)] {
		out = append(out, []api.Int{r.Num, r.Den})
	}
	return append(out, g.tr.G.L[:cap(g.tr.G.L)]...)
}

// deep is all lists with the room behind their ends, all of it new.
func deep(b [][]api.Int) [][]api.Int {
	out := slices.Clone(b)
	for i, row := range out {
		out[i] = slices.Clone(row[:cap(row)])
		for j, a := range out[i] {
			out[i][j].Mag = slices.Clone(a.Mag[:cap(a.Mag)])
		}
	}
	return out
}

func TestArgumentsStay(t *testing.T) {
	everywhere(t, func(name string, call func(g given) answers, g given) {
		before := deep(g.lists())
		call(g)
		if !reflect.DeepEqual(before, deep(g.lists())) {
			t.Errorf("%s changed an argument: %v", name, before)
		}
	})
}

// span is the memory of a list, its room with it.
type span struct{ from, to uintptr }

func spanOf[T any](l []T) span {
	from := uintptr(unsafe.Pointer(unsafe.SliceData(l)))
	return span{from, from + unsafe.Sizeof(*new(T))*uintptr(cap(l))}
}

// spans is the memory of rows: of each, and of each number's limbs.
func spans(l [][]api.Int) []span {
	out := []span{}
	for _, row := range l {
		out = append(out, spanOf(row))
		for _, a := range row {
			out = append(out, spanOf(a.Mag))
		}
	}
	return out
}

func (a answers) spans() []span {
	out := []span{spanOf(a.l)}
	for _, f := range a.l {
		out = append(out, spans(rows(f.X))...)
		out = append(out, spanOf(f.N.Num.Mag), spanOf(f.N.Den.Mag))
	}
	return out
}

func (g given) spans() []span {
	out := []span{spanOf(g.tr.T), spanOf(g.tr.G.L)}
	for _, l := range g.lists() {
		out = append(out, spans([][]api.Int{l[:cap(l)]})...)
	}
	return out
}

// apart tells if no two of these are one memory.
func apart(all []span) bool {
	all = slices.DeleteFunc(slices.Clone(all), func(s span) bool { return s.from == s.to })
	slices.SortFunc(all, func(a, b span) int { return cmp.Compare(a.from, b.from) })
	for i := 1; i < len(all); i++ {
		if all[i].from < all[i-1].to {
			return false
		}
	}
	return true
}

func TestAnswersAreNew(t *testing.T) {
	everywhere(t, func(name string, call func(g given) answers, g given) {
		// What the first answer has given up must not come back in the second one.
		defer debug.SetGCPercent(debug.SetGCPercent(-1))
		first, second := call(g), call(g)
		own := slices.Concat(first.spans(), second.spans())
		if !apart(own) || !apart(append(own, g.spans()...)) {
			t.Errorf("%s: two lists share memory", name)
		}
	})
}

func same(a, b answers) bool {
	return slices.EqualFunc(a.l, b.l, alikeFound) && a.n == b.n && a.e == b.e
}

// changed is the same with every number's fields made by f.
func (g given) changed(f func(a api.Int) api.Int) given {
	list := func(l []api.Int) []api.Int {
		out := []api.Int{}
		for _, a := range l {
			out = append(out, f(a))
		}
		return out
	}
	h := given{nought: g.nought, o: g.o, a: list(g.a), b: list(g.b)}
	h.tr = api.Tree{G: api.Gso{D: list(g.tr.G.D)}, R: api.Rat{Num: f(g.tr.R.Num), Den: f(g.tr.R.Den)}}
	for _, row := range g.tr.G.L {
		h.tr.G.L = append(h.tr.G.L, list(row))
	}
	for _, r := range g.tr.T {
		h.tr.T = append(h.tr.T, api.Rat{Num: f(r.Num), Den: f(r.Den)})
	}
	return h
}

// TestFieldsCountForNothing gives each number in one form, and with limbs of 0 at its end and 0 with a minus; and all of it as it is once more.
func TestFieldsCountForNothing(t *testing.T) {
	tight := func(a api.Int) api.Int { return form(whole(a)) }
	loosened := func(a api.Int) api.Int {
		return num(a.Neg || whole(a).Sign() == 0, append(slices.Clone(a.Mag), 0, 0)...)
	}
	everywhere(t, func(name string, call func(g given) answers, g given) {
		out := call(g)
		if !same(out, call(g)) || !same(out, call(g.changed(tight))) || !same(out, call(g.changed(loosened))) {
			t.Errorf("%s: other fields, other answers: %v", name, g)
		}
	})
}

// TestLowestTermsCountForNothing: a rational may be handed in with any common factor.
func TestLowestTermsCountForNothing(t *testing.T) {
	r := rand.New(rand.NewSource(104))
	more := func(x api.Rat) api.Rat {
		by := above(r, 2)
		widen := func(a api.Int) api.Int { return form(new(big.Int).Mul(whole(a), whole(by))) }
		return api.Rat{Num: widen(x.Num), Den: widen(x.Den)}
	}
	everywhere(t, func(name string, call func(g given) answers, g given) {
		h := g
		h.tr.R, h.tr.T = more(g.tr.R), slices.Clone(g.tr.T)
		for i, x := range h.tr.T {
			h.tr.T[i] = more(x)
		}
		if !same(call(g), call(h)) {
			t.Errorf("%s: other terms, other answers: %v", name, g)
		}
	})
}

// emptied is a list, or f, if it has nothing.
func emptied[T any](l, f []T) []T {
	if len(l) == 0 {
		return f
	}
	return l
}

// withEmpty is the same with something for each list that has nothing.
func (g given) withEmpty(row []api.Int, target []api.Rat) given {
	g.a, g.b, g.tr.T = emptied(g.a, row), emptied(g.b, row), emptied(g.tr.T, target)
	g.tr.G.L = slices.Clone(g.tr.G.L)
	for i, l := range g.tr.G.L {
		g.tr.G.L[i] = emptied(l, row)
	}
	return g
}

// TestNilAndEmptyAreTheSame: as a target, lists in order, the first list of L; and no target counts as noughts.
func TestNilAndEmptyAreTheSame(t *testing.T) {
	for _, g := range everything(t) {
		one, other := g.withEmpty(nil, nil), g.withEmpty([]api.Int{}, []api.Rat{})
		noughts := g.withEmpty(nil, slices.Repeat([]api.Rat{q(0, 3)}, len(g.tr.G.L)))
		for name, call := range calls() {
			if !same(call(one), call(other)) || !same(call(one), call(noughts)) {
				t.Errorf("%s: nil and empty differ: %v", name, g)
			}
		}
	}
}

// TestOneListInAllPlaces: what is handed in may be one list in all its places.
func TestOneListInAllPlaces(t *testing.T) {
	two := num(false, 2)
	row := []api.Int{two, two, two}
	r := api.Rat{Num: two, Den: two}
	tr := api.Tree{G: api.Gso{D: []api.Int{num(false, 1), two, two, two}, L: rows(nil, row[:1], row[:2])}, T: slices.Repeat([]api.Rat{r}, 3), R: r}
	for _, o := range ways(50) {
		shared := given{tr, true, o, row, row}
		for name, call := range calls() {
			if !same(call(shared), call(roomy(shared))) {
				t.Errorf("%s of one list in all places: %v", name, call(shared))
			}
		}
	}
}

// TestManyAskOneTree: nothing is kept, so many may ask at the same time.
func TestManyAskOneTree(t *testing.T) {
	tr := treeOf(t, q(9, 2), []api.Rat{q(1, 3), q(1, 2)}, vec(1, 1), vec(0, 2))
	g := given{tr, true, api.Opt{Workers: 3, Budget: 50, Filter: true}, vec(1, 2), vec(1, 3)}
	sure := map[string]answers{}
	for name, call := range calls() {
		sure[name] = call(roomy(g))
	}
	var done sync.WaitGroup
	for range 8 {
		done.Go(func() {
			for range 50 {
				for name, call := range calls() {
					if !same(call(g), sure[name]) {
						t.Errorf("%s: another answer beside others", name)
					}
				}
			}
		})
	}
	done.Wait()
}
