package tree_test

import (
	"fmt"
	"math/rand"
	"testing"

	"trammel/api"
	"trammel/gso"
	"trammel/tree"
)

// TR2 and TR3, held against the chapter's words.

func TestKids(t *testing.T) {
	r := rand.New(rand.NewSource(50))
	some, none, cut := 0, 0, 0
	everySuffix(51, func(tr api.Tree, m model, s []api.Int) {
		if len(s) == m.n {
			return
		}
		for _, most := range []int{0, 1, 2, 3 + r.Intn(10)} {
			kids, all := m.kids(s, most)
			wantKids(t, tr, s, most, all, kids...)
			switch {
			case !all:
				cut++
			case len(kids) > 0:
				some++
			default:
				none++
			}
		}
	})
	if some < 500 || none < 500 || cut < 500 {
		t.Errorf("%d, %d, %d are few", some, none, cut)
	}
}

// TestKidsAtTheBound: a bound that is just the part of a child lets it, and as many about it as the order says.
func TestKidsAtTheBound(t *testing.T) {
	r := rand.New(rand.NewSource(52))
	everyTree(53, func(tr api.Tree, m model) {
		for _, s := range ways(r, m)[:min(m.n, 4)] {
			at := about(m.centre(s), 6)
			for k, n := range at {
				tr.R = terms(m.part(and(s, n)))
				kids, all := modelOf(tr).kids(s, 15)
				if len(kids) <= k || len(kids) > k+2 || !all {
					t.Fatalf("the test's own children are wrong: %v", told(kids))
				}
				wantKids(t, tr, s, 20, true, kids...)
				wantKids(t, tr, s, len(kids), true, kids...)
				wantKids(t, tr, s, len(kids)-1, false, kids[:len(kids)-1]...)
			}
		}
	})
}

// TestKidsOfWhatIsNoNode: also where the number that is too far off is not the last one.
func TestKidsOfWhatIsNoNode(t *testing.T) {
	tr := treeOf(t, q(1, 1), nil, vec(1, 0, 0), vec(0, 1, 0), vec(0, 0, 1))
	for _, s := range rows(vec(2), vec(-2), vec(1, 1), vec(2, 0), vec(0, 2), vec(-1, 1)) {
		for _, most := range []int{0, 1, 100, api.MaxNodes} {
			wantKids(t, tr, s, most, true)
		}
	}
	wantKids(t, tr, vec(1, 0), 100, true, vec(0)...)
}

// levels is how many of the nodes have 1 number, 2 numbers, and so on.
func levels(n int, nodes [][]api.Int) []int {
	out := make([]int, n)
	for _, node := range nodes {
		out[len(node)-1]++
	}
	return out
}

func TestNodesAndCount(t *testing.T) {
	whole, cut := 0, 0
	for _, tr := range trees(60) {
		m := modelOf(tr)
		const most = 24
		nodes := m.nodes(nil, most+1)
		all := len(nodes) <= most
		if all {
			whole++
		} else {
			cut++
			nodes = nodes[:most]
		}
		wantNodes(t, tr, most, all, nodes...)
		wantCount(t, tr, most, all, levels(m.n, nodes)...)
	}
	if whole < 50 || cut < 50 {
		t.Errorf("%d trees that are told whole and %d others are few", whole, cut)
	}
}

// smallTrees are some of at most 200 nodes.
func smallTrees(t *testing.T, seed int64) []api.Tree {
	t.Helper()
	r := rand.New(rand.NewSource(seed))
	out := []api.Tree{}
	for range 50 {
		n := 1 + r.Intn(4)
		g, e := gso.Of(drawBasis(r, n, digit))
		wantErr(t, "Of", e, api.OK)
		tr := api.Tree{G: g, T: targets(r, n)[r.Intn(5)], R: q(int64(r.Intn(20)), int64(1+r.Intn(3)))}
		if nodes := modelOf(tr).nodes(nil, 201); len(nodes) <= 200 {
			out = append(out, tr)
		}
	}
	if len(out) < 30 {
		t.Errorf("%d trees are few", len(out))
	}
	return out
}

// TestAllOfSmallTrees: how many are asked for decides only where the list is cut.
func TestAllOfSmallTrees(t *testing.T) {
	r := rand.New(rand.NewSource(61))
	for _, tr := range smallTrees(t, 62) {
		m := modelOf(tr)
		nodes := m.nodes(nil, 300)
		many := len(nodes)
		for _, most := range []int{0, 1, 2, many - 1, many, many + 1, r.Intn(many + 1), api.MaxNodes} {
			if most < 0 {
				continue
			}
			first := nodes[:min(most, many)]
			wantNodes(t, tr, most, most >= many, first...)
			wantCount(t, tr, most, most >= many, levels(m.n, first)...)
		}
	}
}

// TestNodesAreInTheOrderOfTheTree, and none is missing: every suffix of small numbers is asked for by itself.
func TestNodesAreInTheOrderOfTheTree(t *testing.T) {
	for _, tr := range smallTrees(t, 63) {
		m := modelOf(tr)
		nodes, all, e := tree.Nodes(tr, api.MaxNodes)
		if !all || e != api.OK {
			t.Fatalf("Nodes: %v, error %d", all, e)
		}
		seen := map[string]bool{}
		for i, node := range nodes {
			seen[fmt.Sprint(told(node))] = true
			if i > 0 && m.order(nodes[i-1], node) >= 0 {
				t.Errorf("%v ahead of %v", told(nodes[i-1]), told(node))
			}
		}
		if len(seen) != len(nodes) {
			t.Errorf("%d nodes come twice", len(nodes)-len(seen))
		}
		if m.n > 2 {
			continue
		}
		many := 0
		for x := int64(-25); x <= 25; x++ {
			box := rows(vec(x))
			for y := int64(-60); y <= 60 && m.n == 2; y++ {
				box = append(box, vec(x, y))
			}
			for _, s := range box {
				if !m.isNode(s) {
					continue
				}
				many++
				if !seen[fmt.Sprint(told(s))] {
					t.Errorf("%v is missing", told(s))
				}
			}
		}
		if many != len(nodes) {
			t.Errorf("%d nodes instead of %d", len(nodes), many)
		}
	}
}

// order is that of the tree.
func (m model) order(a, b []api.Int) int {
	for k := range min(len(a), len(b)) {
		if x, y := whole(a[k]), whole(b[k]); x.Cmp(y) != 0 {
			c := m.centre(a[:k])
			return zigzag(seenFrom(c, x), seenFrom(c, y))
		}
	}
	return len(a) - len(b)
}

// TestMostNodes: just MaxNodes nodes, and more of them, also beyond all counting.
func TestMostNodes(t *testing.T) {
	const most = api.MaxNodes
	for _, c := range []struct {
		r   api.Rat
		all bool
	}{
		{q((most-1)*(most-1), 4), true},
		{q((most+1)*(most+1)-1, 4), true},
		{q((most+1)*(most+1), 4), false},
		{api.Rat{Num: power(5000), Den: small(1)}, false},
	} {
		tr := treeOf(t, c.r, []api.Rat{q(1, 2)}, vec(1))
		kids, all, e := tree.Kids(tr, nil, most)
		if len(kids) != most || all != c.all || e != api.OK {
			t.Errorf("Kids: %d, %v, error %d", len(kids), all, e)
		}
		nodes, all, e := tree.Nodes(tr, most)
		if len(nodes) != most || all != c.all || e != api.OK {
			t.Errorf("Nodes: %d, %v, error %d", len(nodes), all, e)
		}
		for k, x := range kids {
			n := small(int64(k/2 + 1))
			if k%2 == 1 {
				n = small(int64(-k / 2))
			}
			if !alike(x, n) || !alikeRow(nodes[k], []api.Int{n}) {
				t.Fatalf("at %d: %v and %v instead of %v", k, whole(x), told(nodes[k]), whole(n))
			}
		}
		wantCount(t, tr, most, c.all, most)
	}
}

// TestADeepTreeBeyondAllCounting: the first nodes go straight down, and behind them the last row's coefficient alone changes.
func TestADeepTreeBeyondAllCounting(t *testing.T) {
	b := [][]api.Int{}
	for i := range api.MaxDim {
		row := make([]api.Int, api.MaxDim)
		row[i] = small(1)
		b = append(b, row)
	}
	tr := treeOf(t, api.Rat{Num: power(4000), Den: small(1)}, nil, b...)
	counts := make([]int, api.MaxDim)
	for i := range counts {
		counts[i] = 1
	}
	counts[api.MaxDim-1] = api.MaxNodes - (api.MaxDim - 1)
	wantCount(t, tr, api.MaxNodes, false, counts...)
	nodes, all, e := tree.Nodes(tr, 14)
	down := rows()
	for m := 1; m <= api.MaxDim; m++ {
		down = append(down, make([]api.Int, m))
	}
	beside := make([]api.Int, api.MaxDim)
	beside[api.MaxDim-1] = small(1)
	turned := make([]api.Int, api.MaxDim)
	turned[api.MaxDim-1] = small(-1)
	if !alikeRows(nodes, append(down, beside, turned)) || all || e != api.OK {
		t.Errorf("Nodes: %v, %v, error %d", told(nodes...), all, e)
	}
}
