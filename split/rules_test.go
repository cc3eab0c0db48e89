package split_test

import (
	"cmp"
	"math/big"
	"math/rand"
	"reflect"
	"runtime/debug"
	"slices"
	"sync"
	"testing"
	"unsafe"

	"trammel/api"
	"trammel/split"
)

// The rules that hold everywhere, P1 to P5, at every call.

// given is what calls are handed.
type given struct {
	tr    api.Tree
	root  []api.Int
	done  [][]api.Int
	roots [][]api.Int
	n     int // as many jobs, or nodes at most
}

// answers is what a call answers.
type answers struct {
	done, rows [][]api.Int
	jobs       []api.Job
	shares     [][]int
	is, all    bool
	e          api.Errno
}

func calls() map[string]func(g given) answers {
	return map[string]func(g given) answers{
		"Jobs": func(g given) answers {
			done, jobs, e := split.Jobs(g.tr, g.n)
			return answers{done: done, jobs: jobs, rows: rootsOf(jobs), e: e}
		},
		"Below": func(g given) answers {
			l, all, e := split.Below(g.tr, api.Job{Root: g.root}, g.n)
			return answers{rows: l, all: all, e: e}
		},
		"Covers": func(g given) answers {
			is, all, e := split.Covers(g.tr, g.done, jobsOf(g.roots), g.n)
			return answers{is: is, all: all, e: e}
		},
		"Share": func(g given) answers {
			l, e := split.Share(g.n, len(g.tr.G.L))
			return answers{shares: l, e: e}
		},
	}
}

// everything is much that may be handed in, also what can't be.
func everything() []given {
	r := rand.New(rand.NewSource(101))
	out := []given{}
	for _, tr := range trees(102) {
		m := modelOf(tr)
		nodes := m.nodes(nil, 15)
		l := roots(r, m)
		g := given{tr: tr, root: slices.Concat(l, nodes, rows(make([]api.Int, m.n+1)))[r.Intn(len(l)+len(nodes)+1)]}
		g.n = []int{-1, 0, 1, 2, 5, 12}[r.Intn(6)]
		for _, s := range slices.Concat(nodes, l[:3]) {
			list := []*[][]api.Int{&g.done, &g.roots}[r.Intn(2)]
			*list = append(*list, s)
		}
		if r.Intn(4) == 0 {
			// Then the nodes' first ones are in just one place.
			g.done, g.roots = nodes, nil
		}
		out = append(out, g)
	}
	for _, tr := range unfitTrees() {
		out = append(out, given{tr, vec(1), rows(vec(1)), rows(nil, vec(2)), 3})
	}
	return out
}

// everywhere calls f at every call with all of it, made anew each time.
func everywhere(f func(name string, call func(g given) answers, g given)) {
	all := everything()
	for name, call := range calls() {
		for _, g := range all {
			f(name, call, roomy(g))
		}
	}
}

// ahead is a list with room behind its end that a call must leave as it is.
func ahead[T any](l []T, rest ...T) []T {
	return slices.Concat(l, rest)[:len(l)]
}

func roomyNumber(a api.Int) api.Int {
	return api.Int{Neg: a.Neg, Mag: ahead(a.Mag, 0xdead, 0xbeef)}
}

func roomyRat(r api.Rat) api.Rat {
	return api.Rat{Num: roomyNumber(r.Num), Den: roomyNumber(r.Den)}
}

func roomyVector(v []api.Int) []api.Int {
	out := []api.Int{}
	for _, a := range v {
		out = append(out, roomyNumber(a))
	}
	return ahead(out, num(true, 0xfeed), num(false, 0, 0))
}

func roomyRows(l [][]api.Int) [][]api.Int {
	out := rows()
	for _, row := range l {
		out = append(out, roomyVector(row))
	}
	return ahead(out, vec(1, 2, 3))
}

func roomy(g given) given {
	h := given{root: roomyVector(g.root), done: roomyRows(g.done), roots: roomyRows(g.roots), n: g.n}
	rats := []api.Rat{}
	for _, r := range g.tr.T {
		rats = append(rats, roomyRat(r))
	}
	h.tr = api.Tree{
		G: api.Gso{D: roomyVector(g.tr.G.D), L: roomyRows(g.tr.G.L)},
		T: ahead(rats, q(1, 0)),
		R: roomyRat(g.tr.R),
	}
	return h
}

// lists is all that was handed in, as rows.
func (g given) lists() [][]api.Int {
	out := rows(g.tr.G.D, g.root, []api.Int{g.tr.R.Num, g.tr.R.Den})
	for _, r := range g.tr.T[:cap(g.tr.T)] {
		out = append(out, []api.Int{r.Num, r.Den})
	}
	for _, l := range [][][]api.Int{g.tr.G.L, g.done, g.roots} {
		out = append(out, l[:cap(l)]...)
	}
	return out
}

// deep is all lists with the room behind their ends, all of it new.
func deep(b [][]api.Int) [][]api.Int {
	out := slices.Clone(b)
	for i, row := range out {
		out[i] = slices.Clone(row[:cap(row)])
		for j, a := range out[i] {
			out[i][j].Mag = slices.Clone(a.Mag[:cap(a.Mag)])
		}
	}
	return out
}

func TestArgumentsStay(t *testing.T) {
	everywhere(func(name string, call func(g given) answers, g given) {
		before := deep(g.lists())
		call(g)
		if !reflect.DeepEqual(before, deep(g.lists())) {
			t.Errorf("%s changed an argument: %v", name, before)
		}
	})
}

// span is the memory of a list, its room with it.
type span struct{ from, to uintptr }

func spanOf[T any](l []T) span {
	from := uintptr(unsafe.Pointer(unsafe.SliceData(l)))
	return span{from, from + unsafe.Sizeof(*new(T))*uintptr(cap(l))}
}

// spans is the memory of rows: of each, and of each number's limbs.
func spans(l [][]api.Int) []span {
	out := []span{}
	for _, row := range l {
		out = append(out, spanOf(row))
		for _, a := range row {
			out = append(out, spanOf(a.Mag))
		}
	}
	return out
}

func (a answers) spans() []span {
	out := append(spans(slices.Concat(a.done, a.rows)), spanOf(a.done), spanOf(a.jobs), spanOf(a.shares))
	if a.jobs == nil {
		out = append(out, spanOf(a.rows))
	}
	for _, share := range a.shares {
		out = append(out, spanOf(share))
	}
	return out
}

func (g given) spans() []span {
	out := []span{spanOf(g.tr.T), spanOf(g.tr.G.L), spanOf(g.done), spanOf(g.roots)}
	for _, l := range g.lists() {
		out = append(out, spans([][]api.Int{l[:cap(l)]})...)
	}
	return out
}

// apart tells if no two of these are one memory.
func apart(all []span) bool {
	all = slices.DeleteFunc(slices.Clone(all), func(s span) bool { return s.from == s.to })
	slices.SortFunc(all, func(a, b span) int { return cmp.Compare(a.from, b.from) })
	for i := 1; i < len(all); i++ {
		if all[i].from < all[i-1].to {
			return false
		}
	}
	return true
}

func TestAnswersAreNew(t *testing.T) {
	everywhere(func(name string, call func(g given) answers, g given) {
		// What the first answer has given up must not come back in the second one.
		defer debug.SetGCPercent(debug.SetGCPercent(-1))
		first, second := call(g), call(g)
		own := slices.Concat(first.spans(), second.spans())
		if !apart(own) || !apart(append(own, g.spans()...)) {
			t.Errorf("%s: two lists share memory", name)
		}
	})
}

func same(a, b answers) bool {
	return alikeRows(a.done, b.done) && alikeRows(a.rows, b.rows) && slices.EqualFunc(a.shares, b.shares, slices.Equal) &&
		a.is == b.is && a.all == b.all && a.e == b.e
}

// changed is the same with every number's fields made by f.
func (g given) changed(f func(a api.Int) api.Int) given {
	list := func(l []api.Int) []api.Int {
		out := []api.Int{}
		for _, a := range l {
			out = append(out, f(a))
		}
		return out
	}
	lists := func(l [][]api.Int) [][]api.Int {
		out := rows()
		for _, row := range l {
			out = append(out, list(row))
		}
		return out
	}
	h := given{root: list(g.root), done: lists(g.done), roots: lists(g.roots), n: g.n}
	h.tr = api.Tree{G: api.Gso{D: list(g.tr.G.D), L: lists(g.tr.G.L)}, R: api.Rat{Num: f(g.tr.R.Num), Den: f(g.tr.R.Den)}}
	for _, r := range g.tr.T {
		h.tr.T = append(h.tr.T, api.Rat{Num: f(r.Num), Den: f(r.Den)})
	}
	return h
}

// TestFieldsCountForNothing gives each number in one form, and with limbs of 0 at its end and 0 with a minus; and all of it as it is once more.
func TestFieldsCountForNothing(t *testing.T) {
	tight := func(a api.Int) api.Int { return form(whole(a)) }
	loosened := func(a api.Int) api.Int { return wide([]api.Int{a})[0] }
	everywhere(func(name string, call func(g given) answers, g given) {
		out := call(g)
		if !same(out, call(g)) || !same(out, call(g.changed(tight))) || !same(out, call(g.changed(loosened))) {
			t.Errorf("%s: other fields, other answers: %v", name, g)
		}
	})
}

// TestLowestTermsCountForNothing: a rational may be handed in with any common factor.
func TestLowestTermsCountForNothing(t *testing.T) {
	r := rand.New(rand.NewSource(103))
	more := func(x api.Rat) api.Rat {
		by := above(r, 2)
		widen := func(a api.Int) api.Int { return form(new(big.Int).Mul(whole(a), whole(by))) }
		return api.Rat{Num: widen(x.Num), Den: widen(x.Den)}
	}
	everywhere(func(name string, call func(g given) answers, g given) {
		h := g
		h.tr.R, h.tr.T = more(g.tr.R), slices.Clone(g.tr.T)
		for i, x := range h.tr.T {
			h.tr.T[i] = more(x)
		}
		if !same(call(g), call(h)) {
			t.Errorf("%s: other terms, other answers: %v", name, g)
		}
	})
}

// emptied is lists with those that have nothing made f's.
func emptied(l [][]api.Int, f []api.Int) [][]api.Int {
	out := slices.Clone(l)
	for i, row := range out {
		if len(row) == 0 {
			out[i] = f
		}
	}
	return out
}

// TestNilAndEmptyAreTheSame: as a target, a root, what is done, the first list of L; and no target counts as noughts.
func TestNilAndEmptyAreTheSame(t *testing.T) {
	for _, g := range everything() {
		g.done, g.roots = append(slices.Clone(g.done), nil), append(slices.Clone(g.roots), nil)
		if g.n == 1 {
			g.done, g.roots = nil, nil
		}
		h := g
		h.done, h.roots, h.tr.G.L = emptied(g.done, []api.Int{}), emptied(g.roots, []api.Int{}), emptied(g.tr.G.L, []api.Int{})
		g.tr.G.L = emptied(g.tr.G.L, nil)
		if g.n == 1 {
			h.done, h.roots = rows(), rows()
		}
		if len(g.root) == 0 {
			g.root, h.root = nil, []api.Int{}
		}
		noughts := h
		if len(g.tr.T) == 0 {
			g.tr.T, h.tr.T, noughts.tr.T = nil, []api.Rat{}, slices.Repeat([]api.Rat{q(0, 3)}, len(g.tr.G.L))
		}
		for name, call := range calls() {
			if !same(call(g), call(h)) || !same(call(g), call(noughts)) {
				t.Errorf("%s: nil and empty differ: %v", name, g)
			}
		}
	}
}

// TestOneListInAllPlaces: what is handed in may be one list in all its places.
func TestOneListInAllPlaces(t *testing.T) {
	two := num(false, 2)
	row := []api.Int{two, two, two}
	list := rows(nil, row[:1], row[:2])
	r := api.Rat{Num: two, Den: two}
	tr := api.Tree{G: api.Gso{D: []api.Int{num(false, 1), two, two, two}, L: list}, T: slices.Repeat([]api.Rat{r}, 3), R: r}
	for m := range 4 {
		shared := given{tr: tr, root: row[:m], done: list, roots: list[:m], n: 20}
		for name, call := range calls() {
			if !same(call(shared), call(roomy(shared))) {
				t.Errorf("%s of one list in all places: %v", name, call(shared))
			}
		}
	}
}

// TestManyAskOneTree: nothing is kept, so many may ask at the same time.
func TestManyAskOneTree(t *testing.T) {
	tr := treeOf(t, q(9, 2), []api.Rat{q(1, 3), q(1, 2)}, vec(1, 1), vec(0, 2))
	g := given{tr, vec(1), rows(vec(1), vec(0)), rows(vec(1, 0), vec(0, 1)), 6}
	sure := map[string]answers{}
	for name, call := range calls() {
		sure[name] = call(roomy(g))
	}
	var done sync.WaitGroup
	for range 8 {
		done.Go(func() {
			for range 50 {
				for name, call := range calls() {
					if !same(call(g), sure[name]) {
						t.Errorf("%s: another answer beside others", name)
					}
				}
			}
		})
	}
	done.Wait()
}
