package tree_test

import (
	"math"
	"math/rand"
	"testing"

	"trammel/api"
	"trammel/tree"
)

// The errors, in their order; beside one all else is zero.

func isZero(a api.Int) bool { return !a.Neg && len(a.Mag) == 0 }

func refusedRat(t *testing.T, what string, got api.Rat, e, by api.Errno) {
	t.Helper()
	if e != by || !isZero(got.Num) || !isZero(got.Den) {
		t.Errorf("%s: %v, error %d, instead of error %d", what, got, e, by)
	}
}

// refuseSuffix asks the calls over a suffix; fewer tells if those that need one of fewer numbers than rows are asked alone.
func refuseSuffix(t *testing.T, tr api.Tree, s []api.Int, most int, fewer bool, by api.Errno) {
	t.Helper()
	c, e := tree.Centre(tr, s)
	refusedRat(t, "Centre", c, e, by)
	refuseKids(t, tr, s, most, by)
	if fewer {
		return
	}
	p, e := tree.Part(tr, s)
	refusedRat(t, "Part", p, e, by)
	if is, e := tree.In(tr, s); is || e != by {
		t.Errorf("In: %v, error %d, instead of error %d", is, e, by)
	}
}

func refuseKids(t *testing.T, tr api.Tree, s []api.Int, most int, by api.Errno) {
	t.Helper()
	if l, all, e := tree.Kids(tr, s, most); len(l) != 0 || all || e != by {
		t.Errorf("Kids: %v, %v, error %d, instead of error %d", told(l), all, e, by)
	}
}

func refuseNodes(t *testing.T, tr api.Tree, most int, by api.Errno) {
	t.Helper()
	if l, all, e := tree.Nodes(tr, most); len(l) != 0 || all || e != by {
		t.Errorf("Nodes: %v, %v, error %d, instead of error %d", told(l...), all, e, by)
	}
	if l, all, e := tree.Count(tr, most); len(l) != 0 || all || e != by {
		t.Errorf("Count: %v, %v, error %d, instead of error %d", l, all, e, by)
	}
}

// wrongMost are how many nobody may ask for.
func wrongMost() []int {
	return []int{-1, api.MaxNodes + 1, -api.MaxNodes, math.MinInt, math.MaxInt, 1 << 32, -1 << 32}
}

func TestErrTreeIsTheFirst(t *testing.T) {
	for _, tr := range unfitTrees() {
		for _, s := range [][]api.Int{nil, vec(1), vec(1, 2, 3), make([]api.Int, 30)} {
			for _, most := range []int{0, 5, -1, math.MaxInt} {
				refuseSuffix(t, tr, s, most, false, api.ErrTree)
			}
		}
		for _, most := range append(wrongMost(), 0, 1, api.MaxNodes) {
			refuseNodes(t, tr, most, api.ErrTree)
		}
	}
}

func TestErrArg(t *testing.T) {
	r := rand.New(rand.NewSource(70))
	for _, tr := range trees(71) {
		n := len(tr.G.L)
		for _, most := range []int{0, 5, -1} {
			for _, m := range []int{n + 1, n + 2, 300} {
				refuseSuffix(t, tr, drawVector(r, m, digit), most, false, api.ErrArg)
			}
			refuseSuffix(t, tr, drawVector(r, n, digit), most, true, api.ErrArg)
		}
		for _, most := range wrongMost() {
			refuseNodes(t, tr, most, api.ErrArg)
			for m := range n {
				refuseKids(t, tr, make([]api.Int, m), most, api.ErrArg)
			}
		}
	}
}

// TestSuffixesOfAllRows are let where nothing comes next.
func TestSuffixesOfAllRows(t *testing.T) {
	for _, tr := range trees(72) {
		s := make([]api.Int, len(tr.G.L))
		_, e := tree.Part(tr, s)
		wantErr(t, "Part", e, api.OK)
		_, e = tree.In(tr, s)
		wantErr(t, "In", e, api.OK)
	}
}

func refuseNth(t *testing.T, c api.Rat, k int, by api.Errno) {
	t.Helper()
	if n, e := tree.Nth(c, k); e != by || !isZero(n) {
		t.Errorf("Nth(%v, %d): %v, error %d, instead of error %d", c, k, n, e, by)
	}
}

func TestNthRefuses(t *testing.T) {
	wrong := []int{-1, 1<<30 + 1, math.MinInt, math.MaxInt, 1 << 32, 1<<32 + 1, -1 << 31}
	for _, c := range unfitRats() {
		for _, k := range append(wrong, 0, 1, 1<<30) {
			refuseNth(t, c, k, api.ErrRat)
		}
	}
	for _, k := range wrong {
		refuseNth(t, q(1, 2), k, api.ErrArg)
	}
}

// TestDataOfMostRows: MaxDim rows are let, one more is not.
func TestDataOfMostRows(t *testing.T) {
	r := rand.New(rand.NewSource(73))
	tr := api.Tree{G: loose(r, api.MaxDim, 1), R: q(1, 1)}
	wantErr(t, "Valid", tree.Valid(tr), api.OK)
	tr.G = loose(r, api.MaxDim+1, 1)
	wantErr(t, "Valid", tree.Valid(tr), api.ErrTree)
}

// TestATargetOfOneNumber is none of another length, if there is one row.
func TestATargetOfOneNumber(t *testing.T) {
	tr := treeOf(t, q(1, 1), []api.Rat{q(1, 2)}, vec(2))
	wantErr(t, "Valid", tree.Valid(tr), api.OK)
	tr.T = append(tr.T, q(1, 2))
	wantErr(t, "Valid", tree.Valid(tr), api.ErrTree)
	tr.T = nil
	wantErr(t, "Valid", tree.Valid(tr), api.OK)
}
