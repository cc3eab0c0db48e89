package pool_test

import (
	"math/big"
	"slices"
	"testing"

	"trammel/api"
	"trammel/pool"
)

// The examples of the chapter, and some by hand.

// four are the square's shortest vectors, in order.
func four() []api.Found {
	return leaves(q(1, 1), vec(-1, 0), vec(0, -1), vec(0, 1), vec(1, 0))
}

func TestExamples(t *testing.T) {
	for _, o := range ways(8) {
		wantSize(t, square(t), o, 8)
		l, e := pool.Within(square(t), o)
		wantFound(t, "Within", l, e, slices.Concat(leaves(q(0, 1), vec(0, 0)), four()))
		nearestIs(t, square(t), false, o, four())
		nearestIs(t, square(t), true, o, leaves(q(0, 1), vec(0, 0)))
		o.Budget = 7
		refuseSize(t, square(t), o, api.ErrBudget)
		refuseWithin(t, square(t), o, api.ErrBudget)
	}
}

// TestRowsOrder: the numbers are told in the rows' order, not in that in which they are chosen.
func TestRowsOrder(t *testing.T) {
	tr := treeOf(t, q(1, 4), []api.Rat{q(5, 2), q(-7, 1), q(4, 1)}, vec(1, 0, 0), vec(0, 1, 0), vec(0, 0, 1))
	want := leaves(q(1, 4), vec(2, -7, 4), vec(3, -7, 4))
	for _, o := range ways(4) {
		wantSize(t, tr, o, 4)
		l, e := pool.Within(tr, o)
		wantFound(t, "Within", l, e, want)
		nearestIs(t, tr, false, o, want)
	}
}

// TestSkewBasis: of (1, 1), (0, 2) near 1/3 of the first less 3/2 of the second.
func TestSkewBasis(t *testing.T) {
	tr := treeOf(t, q(3, 1), []api.Rat{q(1, 3), q(-3, 2)}, vec(1, 1), vec(0, 2))
	for _, o := range ways(6) {
		wantSize(t, tr, o, 6)
		nearestIs(t, tr, true, o, leaves(q(5, 9), vec(0, -1), vec(1, -2)))
		l, e := pool.Within(tr, o)
		wantFound(t, "Within", l, e, slices.Concat(leaves(q(5, 9), vec(0, -1), vec(1, -2)), leaves(terms(big.NewRat(17, 9)), vec(-1, -1), vec(0, -2))))
	}
}

// TestNoughtsAlone are no leaf that counts, unless they are let; others that are as near count.
func TestNoughtsAlone(t *testing.T) {
	for _, o := range ways(2) {
		tr := treeOf(t, q(0, 1), nil, vec(1, 0), vec(0, 1))
		nearestIs(t, tr, true, o, leaves(q(0, 1), vec(0, 0)))
		refuseNearest(t, tr, false, o, api.ErrNone)
		l, e := pool.Within(tr, o)
		wantFound(t, "Within", l, e, leaves(q(0, 1), vec(0, 0)))
		half := treeOf(t, q(1, 4), []api.Rat{q(1, 2)}, vec(1))
		nearestIs(t, half, true, o, leaves(q(1, 4), vec(0), vec(1)))
		nearestIs(t, half, false, o, leaves(q(1, 4), vec(1)))
	}
}

// TestNothingAtAll: no node, no leaf.
func TestNothingAtAll(t *testing.T) {
	none := treeOf(t, q(1, 5), []api.Rat{q(1, 2)}, vec(1))
	// Here there are nodes, but no leaf: of the last row 0 is let, of the first one nothing.
	stem := treeOf(t, q(1, 5), []api.Rat{q(1, 2), q(0, 1)}, vec(1, 0), vec(0, 1))
	for _, o := range ways(1) {
		wantSize(t, none, o, 0)
		wantSize(t, stem, o, 1)
		for _, tr := range []api.Tree{none, stem} {
			refuseNearest(t, tr, true, o, api.ErrNone)
			refuseNearest(t, tr, false, o, api.ErrNone)
			l, e := pool.Within(tr, o)
			wantFound(t, "Within", l, e, nil)
		}
	}
}

// TestNumbersOfErrors: the numbers by which callers know the errors.
func TestNumbersOfErrors(t *testing.T) {
	o := api.Opt{Workers: 1, Budget: 1}
	_, isTree := pool.Size(api.Tree{}, o)
	_, isBudget := pool.Size(square(t), o)
	_, isNone := pool.Nearest(treeOf(t, q(0, 1), nil, vec(1)), false, o)
	_, isLong := pool.Within(line(t, 1<<30), api.Opt{Workers: 1, Budget: api.MaxBudget})
	for i, e := range []api.Errno{isTree, pool.Valid(api.Opt{}), isBudget, isNone, isLong} {
		if n := []int{110, 150, 9, 6, 2}[i]; int(e) != n {
			t.Errorf("error %d instead of %d", e, n)
		}
	}
}
