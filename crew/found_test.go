package crew_test

import (
	"slices"
	"testing"

	"trammel/api"
	"trammel/crew"
)

// P14.2.

func wantFound(t *testing.T, tr api.Tree, nought bool, want []api.Found) {
	t.Helper()
	l, e := crew.Found(tr, nought)
	if !slices.EqualFunc(l, want, alikeFound) || e != api.OK {
		t.Errorf("%v: %s, error %d instead of %s", nought, inWords(api.CrewRun{Best: l}), e, inWords(api.CrewRun{Best: want}))
	}
}

// least are the leaves that count and have the least part, by a plan.
func least(p plan, nought bool) []api.Found {
	all := []leaf{}
	for _, n := range p.nodes {
		if p.counts(n.s, nought) {
			all = append(all, leafOf(n))
		}
	}
	return best(slices.DeleteFunc(slices.Clone(all), func(one leaf) bool {
		return slices.ContainsFunc(all, func(other leaf) bool { return other.n.Cmp(one.n) < 0 })
	}))
}

func TestFoundIsTheModels(t *testing.T) {
	none, several := 0, 0
	for _, seed := range []int64{21, 22, 23} {
		for _, p := range smallTrees(t, seed) {
			for _, nought := range []bool{false, true} {
				want := least(p, nought)
				wantFound(t, p.tr, nought, want)
				if len(want) == 0 {
					none++
				} else if len(want) > 1 {
					several++
				}
			}
		}
	}
	if none < 10 || several < 50 {
		t.Errorf("%d without a leaf, %d with several are few", none, several)
	}
}

// TestFoundOfBigNumbers, where the tree has few nodes all the same.
func TestFoundOfBigNumbers(t *testing.T) {
	some := 0
	for _, tr := range trees(24) {
		if p, few := planOf(tr, 60); few {
			wantFound(t, tr, some%2 == 0, least(p, some%2 == 0))
			some++
		}
	}
	if some < 50 {
		t.Errorf("%d trees are few", some)
	}
}

// full is a tree of just MaxNodes nodes: the numbers that are less than 32768 from 1/2.
func full(t *testing.T) api.Tree {
	t.Helper()
	return treeOf(t, q(65535*65535, 4), []api.Rat{q(1, 2)}, vec(1))
}

// fuller is one of a node more.
func fuller(t *testing.T) api.Tree {
	t.Helper()
	return treeOf(t, q(32768*32768, 1), nil, vec(1))
}

func TestFoundAtItsLimit(t *testing.T) {
	wantFound(t, full(t), true, leaves(q(1, 4), vec(0), vec(1)))
	wantFound(t, full(t), false, leaves(q(1, 4), vec(1)))
	for _, nought := range []bool{false, true} {
		refuseFound(t, fuller(t), nought, api.ErrLong)
	}
	// All nodes count for the limit, not the leaves alone: here half of them are leaves.
	b := rows(vec(1000000, 0), vec(0, 1))
	wantFound(t, treeOf(t, q(32767*32767, 4), []api.Rat{q(0, 1), q(1, 2)}, b...), true, leaves(q(1, 4), vec(0, 0), vec(0, 1)))
	refuseFound(t, treeOf(t, q(16384*16384, 1), nil, b...), true, api.ErrLong)
}
