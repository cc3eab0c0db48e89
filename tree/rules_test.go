package tree_test

import (
	"math/big"
	"math/rand"
	"reflect"
	"runtime/debug"
	"slices"
	"sync"
	"testing"
	"unsafe"

	"trammel/api"
	"trammel/tree"
)

// The rules that hold everywhere, P1 to P5, at every call.

// given is what calls are handed.
type given struct {
	tr   api.Tree
	s    []api.Int
	most int
}

// answers is what a call answers.
type answers struct {
	rat    api.Rat
	rows   [][]api.Int
	counts []int
	is     bool
	e      api.Errno
}

func calls() map[string]func(g given) answers {
	return map[string]func(g given) answers{
		"Valid": func(g given) answers { return answers{e: tree.Valid(g.tr)} },
		"Part": func(g given) answers {
			r, e := tree.Part(g.tr, g.s)
			return answers{rat: r, e: e}
		},
		"Centre": func(g given) answers {
			r, e := tree.Centre(g.tr, g.s)
			return answers{rat: r, e: e}
		},
		"In": func(g given) answers {
			is, e := tree.In(g.tr, g.s)
			return answers{is: is, e: e}
		},
		"Nth": func(g given) answers {
			n, e := tree.Nth(g.tr.R, g.most)
			return answers{rows: rows([]api.Int{n}), e: e}
		},
		"Kids": func(g given) answers {
			l, all, e := tree.Kids(g.tr, g.s, g.most)
			return answers{rows: rows(l), is: all, e: e}
		},
		"Nodes": func(g given) answers {
			l, all, e := tree.Nodes(g.tr, g.most)
			return answers{rows: l, is: all, e: e}
		},
		"Count": func(g given) answers {
			l, all, e := tree.Count(g.tr, g.most)
			return answers{counts: l, is: all, e: e}
		},
	}
}

// everything is much that may be handed in, also what can't be.
func everything() []given {
	r := rand.New(rand.NewSource(101))
	out := []given{}
	everyTree(102, func(tr api.Tree, m model) {
		l := ways(r, m)
		for _, s := range [][]api.Int{nil, l[r.Intn(m.n)], l[m.n], drawVector(r, 1+r.Intn(m.n), long(2)), make([]api.Int, m.n+1)} {
			out = append(out, given{tr, s, []int{-1, 0, 1, 2, 5, 12}[r.Intn(6)]})
		}
	})
	for _, tr := range unfitTrees() {
		out = append(out, given{tr, vec(1), 3})
	}
	return out
}

// everywhere calls f at every call with all of it, made anew each time.
func everywhere(f func(name string, call func(g given) answers, g given)) {
	all := everything()
	for name, call := range calls() {
		for _, g := range all {
			f(name, call, roomy(g))
		}
	}
}

// ahead is a list with room behind its end that a call must leave as it is.
func ahead[T any](l []T, rest ...T) []T {
	return slices.Concat(l, rest)[:len(l)]
}

func roomyNumber(a api.Int) api.Int {
	return api.Int{Neg: a.Neg, Mag: ahead(a.Mag, 0xdead, 0xbeef)}
}

func roomyRat(r api.Rat) api.Rat {
	return api.Rat{Num: roomyNumber(r.Num), Den: roomyNumber(r.Den)}
}

func roomyVector(v []api.Int) []api.Int {
	out := []api.Int{}
	for _, a := range v {
		out = append(out, roomyNumber(a))
	}
	return ahead(out, num(true, 0xfeed), num(false, 0, 0))
}

func roomy(g given) given {
	h := given{s: roomyVector(g.s), most: g.most}
	rats := []api.Rat{}
	for _, r := range g.tr.T {
		rats = append(rats, roomyRat(r))
	}
	list := [][]api.Int{}
	for _, row := range g.tr.G.L {
		list = append(list, roomyVector(row))
	}
	h.tr = api.Tree{
		G: api.Gso{D: roomyVector(g.tr.G.D), L: ahead(list, vec(1, 2, 3))},
		T: ahead(rats, q(1, 0)),
		R: roomyRat(g.tr.R),
	}
	return h
}

// lists is all that was handed in, as rows.
func (g given) lists() [][]api.Int {
	out := rows(g.tr.G.D, g.s, []api.Int{g.tr.R.Num, g.tr.R.Den})
	for _, r := range g.tr.T[:cap(g.tr.T)] {
		out = append(out, []api.Int{r.Num, r.Den})
	}
	return slices.Concat(out, g.tr.G.L[:cap(g.tr.G.L)])
}

// deep is all lists with the room behind their ends, all of it new.
func deep(b [][]api.Int) [][]api.Int {
	out := slices.Clone(b)
	for i, row := range out {
		out[i] = slices.Clone(row[:cap(row)])
		for j, a := range out[i] {
			out[i][j].Mag = slices.Clone(a.Mag[:cap(a.Mag)])
		}
	}
	return out
}

func TestArgumentsStay(t *testing.T) {
	everywhere(func(name string, call func(g given) answers, g given) {
		before := deep(g.lists())
		call(g)
		if !reflect.DeepEqual(before, deep(g.lists())) {
			t.Errorf("%s changed an argument: %v", name, before)
		}
	})
}

// span is the memory of a list, its room with it.
type span struct{ from, to uintptr }

func spanOf[T any](l []T) span {
	from := uintptr(unsafe.Pointer(unsafe.SliceData(l)))
	return span{from, from + unsafe.Sizeof(*new(T))*uintptr(cap(l))}
}

// spans is the memory of rows: of each, and of each number's limbs.
func spans(l [][]api.Int) []span {
	out := []span{}
	for _, row := range l {
		out = append(out, spanOf(row))
		for _, a := range row {
			out = append(out, spanOf(a.Mag))
		}
	}
	return out
}

func (a answers) spans() []span {
	out := spans(append(slices.Clone(a.rows), []api.Int{a.rat.Num, a.rat.Den}))
	return append(out, spanOf(a.rows), spanOf(a.counts))
}

func TestAnswersAreNew(t *testing.T) {
	everywhere(func(name string, call func(g given) answers, g given) {
		// What the first answer has given up must not come back in the second one.
		defer debug.SetGCPercent(debug.SetGCPercent(-1))
		all := slices.Concat(call(g).spans(), call(g).spans())
		many := len(all)
		for _, l := range g.lists() {
			all = append(all, spans([][]api.Int{l[:cap(l)]})...)
		}
		all = append(all, spanOf(g.tr.T), spanOf(g.tr.G.L))
		for i, s := range all[:many] {
			for _, o := range all[i+1:] {
				if s.from < s.to && o.from < o.to && s.from < o.to && o.from < s.to {
					t.Errorf("%s: two lists share memory", name)
				}
			}
		}
	})
}

func same(a, b answers) bool {
	return alike(a.rat.Num, b.rat.Num) && alike(a.rat.Den, b.rat.Den) && alikeRows(a.rows, b.rows) &&
		slices.Equal(a.counts, b.counts) && a.is == b.is && a.e == b.e
}

// changed is the same with every number's fields made by f.
func (g given) changed(f func(a api.Int) api.Int) given {
	list := func(l []api.Int) []api.Int {
		out := []api.Int{}
		for _, a := range l {
			out = append(out, f(a))
		}
		return out
	}
	h := given{s: list(g.s), most: g.most}
	h.tr = api.Tree{G: api.Gso{D: list(g.tr.G.D)}, R: api.Rat{Num: f(g.tr.R.Num), Den: f(g.tr.R.Den)}}
	for _, row := range g.tr.G.L {
		h.tr.G.L = append(h.tr.G.L, list(row))
	}
	for _, r := range g.tr.T {
		h.tr.T = append(h.tr.T, api.Rat{Num: f(r.Num), Den: f(r.Den)})
	}
	return h
}

// TestFieldsCountForNothing gives each number in one form, and with limbs of 0 at its end and 0 with a minus; and all of it as it is once more.
func TestFieldsCountForNothing(t *testing.T) {
	tight := func(a api.Int) api.Int { return form(whole(a)) }
	wide := func(a api.Int) api.Int {
		return api.Int{Neg: a.Neg || whole(a).Sign() == 0, Mag: slices.Concat(a.Mag, []uint32{0, 0})}
	}
	everywhere(func(name string, call func(g given) answers, g given) {
		out := call(g)
		if !same(out, call(g)) || !same(out, call(g.changed(tight))) || !same(out, call(g.changed(wide))) {
			t.Errorf("%s: other fields, other answers: %v", name, g)
		}
	})
}

// TestLowestTermsCountForNothing: a rational may be handed in with any common factor.
func TestLowestTermsCountForNothing(t *testing.T) {
	r := rand.New(rand.NewSource(103))
	more := func(x api.Rat) api.Rat {
		by := above(r, 2)
		widen := func(a api.Int) api.Int { return form(new(big.Int).Mul(whole(a), whole(by))) }
		return api.Rat{Num: widen(x.Num), Den: widen(x.Den)}
	}
	everywhere(func(name string, call func(g given) answers, g given) {
		h := g
		h.tr.R, h.tr.T = more(g.tr.R), slices.Clone(g.tr.T)
		for i, x := range h.tr.T {
			h.tr.T[i] = more(x)
		}
		if !same(call(g), call(h)) {
			t.Errorf("%s: other terms, other answers: %v", name, g)
		}
	})
}

// TestNilAndEmptyAreTheSame: as a target, a suffix, and the first list of L.
func TestNilAndEmptyAreTheSame(t *testing.T) {
	for _, g := range everything() {
		h := g
		if len(g.tr.T) == 0 {
			g.tr.T, h.tr.T = nil, []api.Rat{}
		}
		if len(g.s) == 0 {
			g.s, h.s = nil, []api.Int{}
		}
		if l := g.tr.G.L; len(l) > 0 && len(l[0]) == 0 {
			g.tr.G.L, h.tr.G.L = slices.Clone(l), slices.Clone(l)
			g.tr.G.L[0], h.tr.G.L[0] = nil, []api.Int{}
		}
		for name, call := range calls() {
			if !same(call(g), call(h)) {
				t.Errorf("%s: nil and empty differ: %v", name, g)
			}
		}
	}
}

// TestNoTargetCountsAsNoughts.
func TestNoTargetCountsAsNoughts(t *testing.T) {
	for _, g := range everything() {
		if len(g.tr.T) != 0 || tree.Valid(g.tr) != api.OK {
			continue
		}
		h := g
		h.tr.T = slices.Repeat([]api.Rat{q(0, 3)}, len(g.tr.G.L))
		for name, call := range calls() {
			if !same(call(g), call(h)) {
				t.Errorf("%s: none and noughts differ: %v", name, g)
			}
		}
	}
}

// TestOneListInAllPlaces: what is handed in may be one list in all its places.
func TestOneListInAllPlaces(t *testing.T) {
	two := num(false, 2)
	row := []api.Int{two, two, two}
	r := api.Rat{Num: two, Den: two}
	tr := api.Tree{
		G: api.Gso{D: []api.Int{num(false, 1), two, two, two}, L: rows(nil, row[:1], row[:2])},
		T: slices.Repeat([]api.Rat{r}, 3), R: r,
	}
	for m := range 4 {
		shared := given{tr: tr, s: row[:m], most: 20}
		for name, call := range calls() {
			if !same(call(shared), call(roomy(shared))) {
				t.Errorf("%s of one list in all places: %v", name, call(shared))
			}
		}
	}
}

// TestManyAskOneTree: nothing is kept, so many may ask at the same time.
func TestManyAskOneTree(t *testing.T) {
	g := given{treeOf(t, q(9, 2), []api.Rat{q(1, 3), q(1, 2)}, vec(1, 1), vec(0, 2)), vec(1), 10}
	sure := map[string]answers{}
	for name, call := range calls() {
		sure[name] = call(roomy(g))
	}
	var done sync.WaitGroup
	for range 8 {
		done.Go(func() {
			for range 50 {
				for name, call := range calls() {
					if !same(call(g), sure[name]) {
						t.Errorf("%s: another answer beside others", name)
					}
				}
			}
		})
	}
	done.Wait()
}
