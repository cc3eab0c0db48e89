package walk_test

import (
	"math/big"
	"math/rand"
	"reflect"
	"slices"
	"testing"

	"trammel/api"
	"trammel/walk"
)

// The rules that hold everywhere, P1 to P5, at every call.

// given is what calls are handed.
type given struct {
	tr    api.Tree
	root  []api.Int
	steps int // how often a walker goes on ahead of what it is asked
	x     api.Int
	r     api.Rat
	most  int
}

// answers is what a call answers.
type answers struct {
	rat  api.Rat
	rows [][]api.Int
	text string
	many int
	is   bool
	e    api.Errno
}

// over makes a walker that goes some steps, and asks it; what New refuses is its answer.
func over(ask func(w *walk.Walker, g given) answers) func(g given) answers {
	return func(g given) answers {
		w, e := walk.New(g.tr, g.root)
		if e != api.OK {
			return answers{is: w != nil, e: e}
		}
		for range g.steps {
			w.Next()
		}
		return ask(w, g)
	}
}

// after is what a walker answers that goes on.
func after(w *walk.Walker, e api.Errno) answers {
	a := answers{text: w.Save(), many: w.Told(), rat: w.Bound(), e: e}
	for range 3 {
		node, is := w.Next()
		a.rows, a.is = append(a.rows, node), is
	}
	return a
}

func calls() map[string]func(g given) answers {
	return map[string]func(g given) answers{
		"Behind": func(g given) answers {
			n, e := walk.Behind(g.r, g.x)
			return answers{rows: rows([]api.Int{n}), e: e}
		},
		"Next": over(func(w *walk.Walker, g given) answers {
			node, is := w.Next()
			return answers{rows: rows(node), is: is}
		}),
		"Part": over(func(w *walk.Walker, g given) answers {
			p, is := w.Part()
			return answers{rat: p, is: is}
		}),
		"Bound":  over(func(w *walk.Walker, g given) answers { return answers{rat: w.Bound(), many: w.Told()} }),
		"Shrink": over(func(w *walk.Walker, g given) answers { return after(w, w.Shrink(g.r)) }),
		"Skip":   over(func(w *walk.Walker, g given) answers { return after(w, w.Skip()) }),
		"Fork":   over(func(w *walk.Walker, g given) answers { return after(w.Fork(), api.OK) }),
		"Save":   over(func(w *walk.Walker, g given) answers { return answers{text: w.Save()} }),
		"Load": over(func(w *walk.Walker, g given) answers {
			other, at, e := walk.Load(g.tr, w.Save())
			if e != api.OK {
				return answers{many: at, e: e}
			}
			return after(other, e)
		}),
		"Run": func(g given) answers {
			l, all, e := walk.Run(g.tr, g.root, g.most)
			return answers{rows: l, is: all, e: e}
		},
	}
}

// everything is much that may be handed in, also what can't be.
func everything() []given {
	r := rand.New(rand.NewSource(101))
	out := []given{}
	for _, tr := range append(trees(102), unfitTrees()...) {
		l := [][]api.Int{nil, vec(1)}
		if tr.R.Den.Mag != nil && len(tr.G.L) > 0 && len(tr.T) == len(tr.G.L) {
			l = append(l, make([]api.Int, len(tr.G.L)+1), drawVector(r, 1+r.Intn(len(tr.G.L)), digit))
		}
		// Most walkers can shrink to a part of their own bound.
		bound := api.Rat{Num: tr.R.Num, Den: form(new(big.Int).Mul(whole(tr.R.Den), big.NewInt(int64(1+r.Intn(4)))))}
		if r.Intn(8) == 0 {
			bound = unfitRats()[r.Intn(len(unfitRats()))]
		}
		out = append(out, given{tr, l[r.Intn(len(l))], r.Intn(6), draw(r, 3), bound, []int{-1, 0, 1, 2, 5, 12}[r.Intn(6)]})
	}
	return out
}

// everywhere calls f at every call with all of it, made anew each time.
func everywhere(f func(name string, call func(g given) answers, g given)) {
	all := everything()
	for name, call := range calls() {
		for _, g := range all {
			f(name, call, roomy(g))
		}
	}
}

// ahead is a list with room behind its end that a call must leave as it is.
func ahead[T any](l []T, rest ...T) []T {
	return slices.Concat(l, rest)[:len(l)]
}

func roomyNumber(a api.Int) api.Int {
	return api.Int{Neg: a.Neg, Mag: ahead(a.Mag, 0xdead, 0xbeef)}
}

func roomyRat(r api.Rat) api.Rat {
	return api.Rat{Num: roomyNumber(r.Num), Den: roomyNumber(r.Den)}
}

func roomyVector(v []api.Int) []api.Int {
	out := []api.Int{}
	for _, a := range v {
		out = append(out, roomyNumber(a))
	}
	return ahead(out, num(true, 0xfeed), num(false, 0, 0))
}

func roomy(g given) given {
	h := g
	h.root, h.x, h.r = roomyVector(g.root), roomyNumber(g.x), roomyRat(g.r)
	rats := []api.Rat{}
	for _, r := range g.tr.T {
		rats = append(rats, roomyRat(r))
	}
	list := [][]api.Int{}
	for _, row := range g.tr.G.L {
		list = append(list, roomyVector(row))
	}
	h.tr = api.Tree{
		G: api.Gso{D: roomyVector(g.tr.G.D), L: ahead(list, vec(1, 2, 3))},
		T: ahead(rats, q(1, 0)),
		R: roomyRat(g.tr.R),
	}
	return h
}

// lists is all that was handed in, as rows.
func (g given) lists() [][]api.Int {
	out := rows(g.tr.G.D, g.root, []api.Int{g.tr.R.Num, g.tr.R.Den, g.r.Num, g.r.Den, g.x})
	for _, r := range g.tr.T[:cap(g.tr.T)] {
		out = append(out, []api.Int{r.Num, r.Den})
	}
	return slices.Concat(out, g.tr.G.L[:cap(g.tr.G.L)])
}

// deep is all lists with the room behind their ends, all of it new.
func deep(b [][]api.Int) [][]api.Int {
	out := slices.Clone(b)
	for i, row := range out {
		out[i] = slices.Clone(row[:cap(row)])
		for j, a := range out[i] {
			out[i][j].Mag = slices.Clone(a.Mag[:cap(a.Mag)])
		}
	}
	return out
}

func TestArgumentsStay(t *testing.T) {
	everywhere(func(name string, call func(g given) answers, g given) {
		before := deep(g.lists())
		call(g)
		if !reflect.DeepEqual(before, deep(g.lists())) {
			t.Errorf("%s changed an argument: %v", name, before)
		}
	})
}

func same(a, b answers) bool {
	return alikeRat(a.rat, b.rat) && alikeRows(a.rows, b.rows) && a.text == b.text && a.many == b.many && a.is == b.is && a.e == b.e
}

// changed is the same with every number's fields made by f.
func (g given) changed(f func(a api.Int) api.Int) given {
	list := func(l []api.Int) []api.Int {
		out := []api.Int{}
		for _, a := range l {
			out = append(out, f(a))
		}
		return out
	}
	ratio := func(r api.Rat) api.Rat { return api.Rat{Num: f(r.Num), Den: f(r.Den)} }
	h := g
	h.root, h.x, h.r = list(g.root), f(g.x), ratio(g.r)
	h.tr = api.Tree{G: api.Gso{D: list(g.tr.G.D)}, R: ratio(g.tr.R)}
	for _, row := range g.tr.G.L {
		h.tr.G.L = append(h.tr.G.L, list(row))
	}
	for _, r := range g.tr.T {
		h.tr.T = append(h.tr.T, ratio(r))
	}
	return h
}

// TestFieldsCountForNothing gives each number in one form, and with limbs of 0 at its end and 0 with a minus; and all of it as it is once more.
func TestFieldsCountForNothing(t *testing.T) {
	tight := func(a api.Int) api.Int { return form(whole(a)) }
	wide := func(a api.Int) api.Int {
		return api.Int{Neg: a.Neg || whole(a).Sign() == 0, Mag: slices.Concat(a.Mag, []uint32{0, 0})}
	}
	everywhere(func(name string, call func(g given) answers, g given) {
		out := call(g)
		if !same(out, call(g)) || !same(out, call(g.changed(tight))) || !same(out, call(g.changed(wide))) {
			t.Errorf("%s: other fields, other answers: %v", name, g)
		}
	})
}

// TestLowestTermsCountForNothing: a rational may be handed in with any common factor.
func TestLowestTermsCountForNothing(t *testing.T) {
	r := rand.New(rand.NewSource(103))
	more := func(x api.Rat) api.Rat {
		by := above(r, 2)
		widen := func(a api.Int) api.Int { return form(new(big.Int).Mul(whole(a), whole(by))) }
		return api.Rat{Num: widen(x.Num), Den: widen(x.Den)}
	}
	everywhere(func(name string, call func(g given) answers, g given) {
		h := g
		h.tr.R, h.r, h.tr.T = more(g.tr.R), more(g.r), slices.Clone(g.tr.T)
		for i, x := range h.tr.T {
			h.tr.T[i] = more(x)
		}
		if !same(call(g), call(h)) {
			t.Errorf("%s: other terms, other answers: %v", name, g)
		}
	})
}

// TestNilAndEmptyAreTheSame: as a target, a root, and the first list of L; and no target counts as noughts.
func TestNilAndEmptyAreTheSame(t *testing.T) {
	for _, g := range everything() {
		h, noughts := g, g
		if len(g.tr.T) == 0 {
			g.tr.T, h.tr.T, noughts.tr.T = nil, []api.Rat{}, slices.Repeat([]api.Rat{q(0, 3)}, len(g.tr.G.L))
		}
		if len(g.root) == 0 {
			g.root, h.root = nil, []api.Int{}
		}
		if l := g.tr.G.L; len(l) > 0 && len(l[0]) == 0 {
			g.tr.G.L, h.tr.G.L = slices.Clone(l), slices.Clone(l)
			g.tr.G.L[0], h.tr.G.L[0] = nil, []api.Int{}
		}
		for name, call := range calls() {
			if !same(call(g), call(h)) || !same(call(g), call(noughts)) {
				t.Errorf("%s: nil and empty differ: %v", name, g)
			}
		}
	}
}

// TestOneListInAllPlaces: what is handed in may be one list in all its places.
func TestOneListInAllPlaces(t *testing.T) {
	two := num(false, 2)
	row := []api.Int{two, two, two}
	r := api.Rat{Num: two, Den: two}
	tr := api.Tree{
		G: api.Gso{D: []api.Int{num(false, 1), two, two, two}, L: rows(nil, row[:1], row[:2])},
		T: slices.Repeat([]api.Rat{r}, 3), R: r,
	}
	for m := range 4 {
		shared := given{tr: tr, root: row[:m], steps: 2, x: two, r: r, most: 20}
		for name, call := range calls() {
			if !same(call(shared), call(roomy(shared))) {
				t.Errorf("%s of one list in all places: %v", name, call(shared))
			}
		}
	}
}
