package tree_test

import (
	"math/big"
	"slices"
	"testing"

	"trammel/api"
	"trammel/tree"
)

// The examples of the chapter, and some more that are written out.

func wantNodes(t *testing.T, tr api.Tree, most int, all bool, nodes ...[]api.Int) {
	t.Helper()
	got, is, e := tree.Nodes(tr, most)
	if !alikeRows(got, nodes) || is != all || e != api.OK {
		t.Errorf("Nodes: %v, %v, error %d, instead of %v, %v", told(got...), is, e, told(nodes...), all)
	}
}

func wantCount(t *testing.T, tr api.Tree, most int, all bool, counts ...int) {
	t.Helper()
	got, is, e := tree.Count(tr, most)
	if !slices.Equal(got, counts) || is != all || e != api.OK {
		t.Errorf("Count: %v, %v, error %d, instead of %v, %v", got, is, e, counts, all)
	}
}

func wantKids(t *testing.T, tr api.Tree, s []api.Int, most int, all bool, kids ...api.Int) {
	t.Helper()
	got, is, e := tree.Kids(tr, s, most)
	if !alikeRow(got, kids) || is != all || e != api.OK {
		t.Errorf("Kids of %v: %v, %v, error %d, instead of %v, %v", told(s), told(got), is, e, told(kids), all)
	}
}

func wantIn(t *testing.T, tr api.Tree, s []api.Int, in bool) {
	t.Helper()
	if is, e := tree.In(tr, s); is != in || e != api.OK {
		t.Errorf("In of %v: %v, error %d", told(s), is, e)
	}
}

func wantNth(t *testing.T, c api.Rat, k int, n bigInt) {
	t.Helper()
	if got, e := tree.Nth(c, k); !alike(got, form(n)) || e != api.OK {
		t.Errorf("Nth(%v, %d): %v, error %d, instead of %v", value(c), k, whole(got), e, n)
	}
}

// square are the nodes of the plain square lattice up to 1.
func square() [][]api.Int {
	return rows(vec(0), vec(0, 0), vec(0, 1), vec(0, -1), vec(1), vec(1, 0), vec(-1), vec(-1, 0))
}

func TestExamples(t *testing.T) {
	tr := treeOf(t, q(1, 1), nil, vec(1, 0), vec(0, 1))
	wantErr(t, "Valid", tree.Valid(tr), api.OK)
	wantNodes(t, tr, 100, true, square()...)
	wantCount(t, tr, 100, true, 3, 5)
	tr.R = q(0, 1)
	wantNodes(t, tr, 100, true, vec(0), vec(0, 0))
	wantNth(t, q(1, 2), 0, big.NewInt(1))
	wantNth(t, q(1, 2), 1, big.NewInt(0))
	wantNth(t, q(0, 1), 1, big.NewInt(1))
	wantNth(t, q(0, 1), 2, big.NewInt(-1))
}

func TestTheFirstOfTheSquare(t *testing.T) {
	tr := treeOf(t, q(1, 1), nil, vec(1, 0), vec(0, 1))
	for most, c := range [][]int{{0, 0}, {1, 0}, {1, 1}, {1, 2}, {1, 3}, {2, 3}, {2, 4}, {3, 4}, {3, 5}, {3, 5}, {3, 5}} {
		wantNodes(t, tr, most, most >= 8, square()[:min(most, 8)]...)
		wantCount(t, tr, most, most >= 8, c...)
	}
}

// TestASlantedLattice: (1, 1) and (0, 2), about 1/3 and -1/2, up to 2: Star is 2, 2, mu is 1.
func TestASlantedLattice(t *testing.T) {
	tr := treeOf(t, q(2, 1), []api.Rat{q(1, 3), q(-1, 2)}, vec(1, 1), vec(0, 2))
	p, e := tree.Part(tr, vec(0))
	want(t, "Part", p, e, big.NewRat(1, 2))
	p, e = tree.Part(tr, vec(0, 1))
	want(t, "Part", p, e, big.NewRat(1, 2).Add(big.NewRat(1, 2), big.NewRat(2*49, 36)))
	c, e := tree.Centre(tr, nil)
	want(t, "Centre", c, e, big.NewRat(-1, 2))
	c, e = tree.Centre(tr, vec(0))
	want(t, "Centre", c, e, big.NewRat(-1, 6))
	c, e = tree.Centre(tr, vec(-1))
	want(t, "Centre", c, e, big.NewRat(5, 6))
	// About -1/2 two numbers are as near, the greater one first. Of the bound 3/2 are left to each, so the other number may be off by 3/4, squared.
	wantKids(t, tr, nil, 9, true, vec(0, -1)...)
	wantKids(t, tr, vec(0), 9, true, vec(0, -1)...)
	wantKids(t, tr, vec(-1), 9, true, vec(1, 0)...)
	wantNodes(t, tr, 9, true, vec(0), vec(0, 0), vec(0, -1), vec(-1), vec(-1, 1), vec(-1, 0))
	wantIn(t, tr, vec(0, 1), false)
	wantIn(t, tr, vec(1), false)
	wantIn(t, tr, vec(1, -1), false)
	wantIn(t, tr, nil, true)
}

// TestOneRow: some children lie just at the bound.
func TestOneRow(t *testing.T) {
	line := treeOf(t, q(9, 1), nil, vec(1))
	wantKids(t, line, nil, 100, true, vec(0, 1, -1, 2, -2, 3, -3)...)
	wantKids(t, line, nil, 7, true, vec(0, 1, -1, 2, -2, 3, -3)...)
	wantKids(t, line, nil, 6, false, vec(0, 1, -1, 2, -2, 3)...)
	wantKids(t, line, nil, 0, false)
	line.R = q(899, 100)
	wantKids(t, line, nil, 100, true, vec(0, 1, -1, 2, -2)...)
	line.R, line.T = q(9, 4), []api.Rat{q(-1, 2)}
	wantKids(t, line, nil, 100, true, vec(0, -1, 1, -2)...)
	line.R = q(24, 100)
	wantKids(t, line, nil, 0, true)
	wantKids(t, line, nil, 100, true)
	wantNodes(t, line, 0, true)
	wantCount(t, line, 100, true, 0)
}
