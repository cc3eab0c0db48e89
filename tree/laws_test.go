package tree_test

import (
	"fmt"
	"math/big"
	"math/rand"
	"slices"
	"testing"

	"trammel/api"
	"trammel/gso"
	"trammel/mat"
	"trammel/rat"
	"trammel/tree"
	"trammel/zint"
)

// TR4, and G1 and G2 as far as this layer reaches, by the program's own calls.

func TestWhatBeginsANodeIsOne(t *testing.T) {
	for _, tr := range trees(80) {
		nodes, _, _ := tree.Nodes(tr, 20)
		for _, node := range nodes {
			for m := range len(node) + 1 {
				wantIn(t, tr, node[:m], true)
			}
		}
	}
}

func TestAChildsPartIsNeverBelow(t *testing.T) {
	everySuffix(81, func(tr api.Tree, m model, s []api.Int) {
		if len(s) == 0 {
			p, e := tree.Part(tr, s)
			want(t, "Part of none", p, e, new(big.Rat))
			return
		}
		p, _ := tree.Part(tr, s)
		ahead, _ := tree.Part(tr, s[:len(s)-1])
		if order, _ := rat.Cmp(p, ahead); order < 0 {
			t.Errorf("%v behind %v", value(p), value(ahead))
		}
	})
}

// reversed is a suffix of all numbers as coefficients, row by row.
func reversed(s []api.Int) []api.Int {
	out := slices.Clone(s)
	slices.Reverse(out)
	return out
}

// point is the sum of the rows, each taken c times.
func point(b [][]api.Int, c []api.Rat) []bigRat {
	out := []bigRat{}
	for k := range b[0] {
		sum := new(big.Rat)
		for i, r := range c {
			sum.Add(sum, times(value(r), ratOf(b[i][k])))
		}
		out = append(out, sum)
	}
	return out
}

func distance(a, b []bigRat) bigRat {
	sum := new(big.Rat)
	for k := range a {
		d := minus(a[k], b[k])
		sum.Add(sum, times(d, d))
	}
	return sum
}

func rats(x []api.Int) []api.Rat {
	out := []api.Rat{}
	for _, a := range x {
		out = append(out, rat.Of(a))
	}
	return out
}

func TestThePartOfAllNumbersIsTheDistance(t *testing.T) {
	r := rand.New(rand.NewSource(82))
	for n := 1; n <= 6; n++ {
		for _, one := range []func(r *rand.Rand) api.Int{digit, long(3)} {
			b := drawBasis(r, n, one)
			g, _ := gso.Of(b)
			for _, target := range targets(r, n) {
				s := drawVector(r, n, one)
				p, e := tree.Part(api.Tree{G: g, T: target, R: q(0, 1)}, s)
				aim := target
				if len(aim) == 0 {
					aim = rats(make([]api.Int, n))
				}
				want(t, "Part", p, e, distance(point(b, rats(reversed(s))), point(b, aim)))
			}
		}
	}
}

func TestChildrenAreNumbersWithoutAGap(t *testing.T) {
	r := rand.New(rand.NewSource(83))
	many := 0
	everyTree(84, func(tr api.Tree, m model) {
		for _, s := range ways(r, m)[:min(m.n, 5)] {
			kids, _, _ := tree.Kids(tr, s, 50)
			slices.SortFunc(kids, zint.Compare)
			for k := 1; k < len(kids); k++ {
				if !alike(kids[k], zint.Add(kids[k-1], zint.Of(1))) {
					t.Errorf("a gap: %v", told(kids))
				}
			}
			if len(kids) > 2 {
				many++
			}
		}
	})
	if many < 100 {
		t.Errorf("only %d had several children", many)
	}
}

func turned(s []api.Int) []api.Int {
	out := []api.Int{}
	for _, x := range s {
		out = append(out, zint.Neg(x))
	}
	return out
}

func TestWithoutATargetSignsMayBeTurned(t *testing.T) {
	for _, tr := range trees(85) {
		if len(tr.T) > 0 {
			continue
		}
		for m := range len(tr.G.L) + 1 {
			wantIn(t, tr, make([]api.Int, m), true)
		}
		nodes, _, _ := tree.Nodes(tr, 40)
		for _, node := range nodes {
			wantIn(t, tr, turned(node), true)
		}
		if len(nodes) < len(tr.G.L) {
			t.Errorf("the noughts are missing: %v", told(nodes...))
		}
	}
	for _, tr := range smallTrees(t, 86) {
		tr.T = nil
		nodes, all, _ := tree.Nodes(tr, api.MaxNodes)
		listed := map[string]bool{}
		for _, node := range nodes {
			listed[fmt.Sprint(told(node))] = true
		}
		for _, node := range nodes {
			if all && !listed[fmt.Sprint(told(turned(node)))] {
				t.Errorf("%v is there, but not turned", told(node))
			}
		}
	}
}

// TestTheCallsAgree: Nodes, Count, Kids, In, Centre, Nth and Part say one thing.
func TestTheCallsAgree(t *testing.T) {
	for _, tr := range smallTrees(t, 87) {
		n := len(tr.G.L)
		nodes, _, _ := tree.Nodes(tr, api.MaxNodes)
		rest := nodes
		var down func(s []api.Int)
		down = func(s []api.Int) {
			if len(s) == n {
				return
			}
			kids, all, e := tree.Kids(tr, s, api.MaxNodes)
			c, _ := tree.Centre(tr, s)
			if !all || e != api.OK {
				t.Fatalf("Kids: %v, error %d", all, e)
			}
			for k, x := range kids {
				if at, _ := tree.Nth(c, k); !alike(at, x) {
					t.Errorf("the child at %d of %v is %v instead of %v", k, told(s), whole(x), whole(at))
				}
				node := append(slices.Clone(s), x)
				if len(rest) == 0 || !alikeRow(rest[0], node) {
					t.Fatalf("%v is not the next one of %v", told(node), told(rest...))
				}
				rest = rest[1:]
				wantIn(t, tr, node, true)
				down(node)
			}
			behind, _ := tree.Nth(c, len(kids))
			wantIn(t, tr, append(slices.Clone(s), behind), false)
		}
		down(nil)
		if len(rest) != 0 {
			t.Errorf("%v are no children", told(rest...))
		}
		wantCount(t, tr, api.MaxNodes, true, levels(n, nodes)...)
	}
}

// box calls f with all coefficients of -k to k for n rows.
func box(n int, k int64, f func(x []api.Int)) {
	x := make([]api.Int, n)
	var put func(i int)
	put = func(i int) {
		if i == n {
			f(x)
			return
		}
		for c := -k; c <= k; c++ {
			x[i] = small(c)
			put(i + 1)
		}
	}
	put(0)
}

// TestNothingIsShorterOrCloser: of all vectors with small coefficients the leaves are those within the bound, so none that is shorter, or closer to a target, is missing.
func TestNothingIsShorterOrCloser(t *testing.T) {
	r := rand.New(rand.NewSource(88))
	asked := 0
	for range 40 {
		n := 1 + r.Intn(3)
		b := drawBasis(r, n, digit)
		g, _ := gso.Of(b)
		aim := rats(make([]api.Int, n))
		tr := api.Tree{G: g, R: q(int64(r.Intn(30)), 2)}
		if r.Intn(2) == 0 {
			for i := range aim {
				aim[i] = q(int64(r.Intn(9)-4), int64(1+r.Intn(3)))
			}
			tr.T = aim
		}
		nodes, all, e := tree.Nodes(tr, api.MaxNodes)
		if !all || e != api.OK {
			t.Fatalf("Nodes: %v, error %d", all, e)
		}
		leaves := map[string]bool{}
		for _, node := range nodes {
			if len(node) == n {
				leaves[fmt.Sprint(told(reversed(node)))] = true
			}
		}
		to := point(b, aim)
		box(n, 6, func(x []api.Int) {
			v, e := mat.Combine(x, b)
			wantErr(t, "Combine", e, api.OK)
			d := distance(point([][]api.Int{v}, []api.Rat{q(1, 1)}), to)
			if leaves[fmt.Sprint(told(x))] != (d.Cmp(value(tr.R)) <= 0) {
				t.Errorf("%v is %v off, bound %v, leaf: %v", told(x), d, value(tr.R), d.Cmp(value(tr.R)) > 0)
			}
			asked++
		})
	}
	if asked < 10000 {
		t.Errorf("only %d were asked", asked)
	}
}
