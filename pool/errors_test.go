package pool_test

import (
	"testing"

	"trammel/api"
)

// The errors, in their order; beside one all else is zero.

// refuse holds all calls that search.
func refuse(t *testing.T, tr api.Tree, o api.Opt, want api.Errno) {
	t.Helper()
	refuseSize(t, tr, o, want)
	refuseWithin(t, tr, o, want)
	refuseNearest(t, tr, true, o, want)
	refuseNearest(t, tr, false, o, want)
}

func TestErrTreeIsTheFirst(t *testing.T) {
	for _, tr := range unfitTrees() {
		for _, o := range append(wrongWays(), ways(100)...) {
			refuse(t, tr, o, api.ErrTree)
		}
	}
}

func TestErrOptIsAheadOfTheSearch(t *testing.T) {
	none := treeOf(t, q(1, 5), []api.Rat{q(1, 2)}, vec(1))
	for _, tr := range []api.Tree{square(t), none, wide(t), line(t, 1<<30)} {
		for _, o := range wrongWays() {
			refuse(t, tr, o, api.ErrOpt)
		}
	}
}

// TestErrBudgetWhereAllMustBeSeen: where nothing can be left out Nearest is out, too.
func TestErrBudgetWhereAllMustBeSeen(t *testing.T) {
	// All 4 * 4 vectors of halves are as near.
	tr := treeOf(t, q(1, 1), []api.Rat{q(1, 2), q(1, 2), q(1, 2), q(1, 2)}, vec(1, 0, 0, 0), vec(0, 1, 0, 0), vec(0, 0, 1, 0), vec(0, 0, 0, 1))
	for budget := 1; budget < 30; budget++ {
		for _, o := range ways(budget) {
			refuse(t, tr, o, api.ErrBudget)
		}
	}
	for _, o := range ways(30) {
		wantSize(t, tr, o, 30)
	}
}
