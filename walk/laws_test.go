package walk_test

import (
	"math/rand"
	"slices"
	"sync"
	"testing"

	"trammel/api"
	"trammel/gso"
	"trammel/mat"
	"trammel/rat"
	"trammel/tree"
	"trammel/walk"
)

// P12.6, and G1 and G3 as far as this layer reaches, by the program's own calls.

func TestRunOfNoRootAreTheTreesNodes(t *testing.T) {
	for _, tr := range append(trees(40), smallTrees(t, 41)...) {
		for _, most := range []int{0, 1, 7, 30} {
			nodes, all, _ := tree.Nodes(tr, most)
			wantRun(t, tr, nil, most, all, nodes...)
		}
	}
}

// rest asks for nodes until there is none any more.
func rest(w *walk.Walker) [][]api.Int {
	out := [][]api.Int{}
	for node, some := w.Next(); some; node, some = w.Next() {
		out = append(out, node)
	}
	return out
}

// TestAShrinkingBound: whenever the bound shrinks, and in how many steps, all nodes by the last one are told, but those that were told before, in order.
func TestAShrinkingBound(t *testing.T) {
	r := rand.New(rand.NewSource(42))
	for _, tr := range smallTrees(t, 43) {
		all, _, _ := tree.Nodes(tr, api.MaxNodes)
		for _, root := range roots(r, modelOf(tr)) {
			w := made(t, tr, root)
			before := map[string]bool{}
			for range r.Intn(5) {
				for range r.Intn(6) {
					node, _ := w.Next()
					before[mat.TextVector(node)] = true
				}
				if len(all) > 0 {
					p, _ := tree.Part(tr, all[r.Intn(len(all))])
					w.Shrink(p)
				}
			}
			less := tr
			less.R = w.Bound()
			nodes, _, _ := walk.Run(less, root, api.MaxNodes)
			nodes = slices.DeleteFunc(nodes, func(node []api.Int) bool { return before[mat.TextVector(node)] })
			if got := rest(w); !alikeRows(got, nodes) {
				t.Errorf("by %v: %v instead of %v", value(less.R), told(got...), told(nodes...))
			}
		}
	}
}

// TestTheWalkersOfTheChildren tell, one after another, what that of their suffix tells but the suffix.
func TestTheWalkersOfTheChildren(t *testing.T) {
	r := rand.New(rand.NewSource(44))
	for _, tr := range smallTrees(t, 45) {
		m := modelOf(tr)
		for _, s := range roots(r, m) {
			if len(s) == m.n {
				continue
			}
			nodes := rest(made(t, tr, s))
			if len(s) > 0 && len(nodes) > 0 {
				nodes = nodes[1:]
			}
			kids, _, _ := tree.Kids(tr, s, api.MaxNodes)
			got := [][]api.Int{}
			for _, x := range kids {
				got = append(got, rest(made(t, tr, append(slices.Clone(s), x)))...)
			}
			if !alikeRows(got, nodes) {
				t.Errorf("below %v: %v instead of %v", told(s), told(got...), told(nodes...))
			}
		}
	}
}

// TestLoadOfSaveGoesOn, also in great trees, from each of many nodes.
func TestLoadOfSaveGoesOn(t *testing.T) {
	r := rand.New(rand.NewSource(46))
	many := 0
	for _, tr := range trees(47) {
		l := roots(r, modelOf(tr))
		for _, root := range [][]api.Int{nil, l[r.Intn(len(l))], l[1]} {
			w := made(t, tr, root)
			for range 1 + r.Intn(8) {
				w.Next()
			}
			if r.Intn(3) == 0 {
				w.Skip()
			}
			if len(w.Save()) > api.MaxSave {
				continue
			}
			other := loaded(t, tr, w.Save())
			for range 5 {
				wantTwins(t, w, other)
			}
			many++
		}
	}
	if many < 500 {
		t.Errorf("%d are few", many)
	}
}

// wantTwins asks two walkers that must not differ.
func wantTwins(t *testing.T, a, b *walk.Walker) {
	t.Helper()
	x, is := a.Next()
	y, too := b.Next()
	if !alikeRow(x, y) || is != too || a.Save() != b.Save() {
		t.Errorf("%v, %v and %v, %v: %q and %q", told(x), is, told(y), too, a.Save(), b.Save())
	}
	p, is := a.Part()
	r, too := b.Part()
	if !alikeRat(p, r) || is != too || a.Told() != b.Told() || !alikeRat(a.Bound(), b.Bound()) {
		t.Errorf("%v, %v and %v, %v", p, is, r, too)
	}
}

// TestPartIsTheTrees.
func TestPartIsTheTrees(t *testing.T) {
	for _, tr := range trees(48) {
		w := made(t, tr, nil)
		for range 15 {
			node, some := w.Next()
			if !some {
				wantNoPart(t, w)
				break
			}
			p, _ := tree.Part(tr, node)
			wantPart(t, w, p)
			wantPart(t, w.Fork(), p)
		}
	}
}

// box calls f with all coefficients of -k to k for n rows.
func box(n int, k int64, f func(x []api.Int)) {
	x := make([]api.Int, n)
	var put func(i int)
	put = func(i int) {
		if i == n {
			f(x)
			return
		}
		for c := -k; c <= k; c++ {
			x[i] = small(c)
			put(i + 1)
		}
	}
	put(0)
}

// shortest walks with a bound that shrinks to each vector it comes by, and is the last one's squared length.
func shortest(t *testing.T, tr api.Tree) bigRat {
	t.Helper()
	w := made(t, tr, nil)
	for node, some := w.Next(); some; node, some = w.Next() {
		if p, _ := w.Part(); len(node) == len(tr.G.L) && value(p).Sign() > 0 {
			wantErr(t, "Shrink", w.Shrink(p), api.OK)
		}
	}
	return value(w.Bound())
}

// TestNothingIsShorter: a walker whose bound shrinks to each vector it tells ends with the least of all.
func TestNothingIsShorter(t *testing.T) {
	r := rand.New(rand.NewSource(49))
	for range 40 {
		n := 1 + r.Intn(3)
		b := drawBasis(r, n, digit)
		g, _ := gso.Of(b)
		got := shortest(t, api.Tree{G: g, R: rat.Of(g.D[1])})
		least := ratOf(g.D[1])
		box(n, 6, func(x []api.Int) {
			v, _ := mat.Combine(x, b)
			if d := ratOf(mat.Norm(v)); d.Sign() > 0 && d.Cmp(least) < 0 {
				least = d
			}
		})
		if got.Cmp(least) != 0 {
			t.Errorf("%v instead of %v, of %v", got, least, told(b...))
		}
	}
}

// TestManyWalkAtTheSameTime: walkers know nothing of one another, also those that were forked, so goroutines may each have one.
func TestManyWalkAtTheSameTime(t *testing.T) {
	tr := treeOf(t, q(9, 2), []api.Rat{q(1, 3), q(1, 2), q(-2, 7)}, vec(1, 1, 0), vec(0, 2, 1), vec(1, 0, 3))
	nodes, _, _ := tree.Nodes(tr, api.MaxNodes)
	w := made(t, tr, nil)
	var done sync.WaitGroup
	for at := range nodes {
		f, s := w.Fork(), w.Save()
		done.Go(func() {
			if got := rest(f); !alikeRows(got, nodes[at:]) {
				t.Errorf("a fork at %d: %v", at, told(got...))
			}
			other, _, _ := walk.Load(tr, s)
			if got := rest(other); !alikeRows(got, nodes[at:]) {
				t.Errorf("loaded at %d: %v", at, told(got...))
			}
		})
		wantNext(t, w, nodes[at])
	}
	wantEnd(t, w)
	done.Wait()
}
