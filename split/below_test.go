package split_test

import (
	"math/rand"
	"testing"

	"trammel/api"
	"trammel/split"
)

// SP2, held against the chapter's words.

func wantBelow(t *testing.T, tr api.Tree, root []api.Int, most int, all bool, nodes ...[]api.Int) {
	t.Helper()
	got, is, e := split.Below(tr, api.Job{Root: root}, most)
	if !alikeRows(got, nodes) || is != all || e != api.OK {
		t.Errorf("Below %v, %d: %v, %v, error %d, instead of %v, %v", told(root), most, told(got...), is, e, told(nodes...), all)
	}
}

func refuseBelow(t *testing.T, tr api.Tree, root []api.Int, most int, by api.Errno) {
	t.Helper()
	if l, all, e := split.Below(tr, api.Job{Root: root}, most); len(l) != 0 || all || e != by {
		t.Errorf("Below: %v, %v, error %d, instead of error %d", told(l...), all, e, by)
	}
}

func TestBelow(t *testing.T) {
	r := rand.New(rand.NewSource(10))
	whole, cut := 0, 0
	for _, tr := range trees(11) {
		m := modelOf(tr)
		for k, root := range roots(r, m) {
			if k > 0 && r.Intn(6) > 0 {
				continue
			}
			most := r.Intn(20)
			nodes := m.from(root, most+1)
			all := len(nodes) <= most
			wantBelow(t, tr, root, most, all, nodes[:min(most, len(nodes))]...)
			if all {
				whole++
			} else {
				cut++
			}
		}
	}
	if whole < 200 || cut < 200 {
		t.Errorf("%d that are told whole and %d others are few", whole, cut)
	}
}

// TestBelowIsCutWhereItIsSaid: at each node, also just at the end, and at none.
func TestBelowIsCutWhereItIsSaid(t *testing.T) {
	r := rand.New(rand.NewSource(12))
	for _, tr := range smallTrees(t, 13) {
		m := modelOf(tr)
		for _, root := range roots(r, m) {
			nodes := m.from(root, 200)
			for most := range len(nodes) + 2 {
				wantBelow(t, tr, root, most, most >= len(nodes), nodes[:min(most, len(nodes))]...)
			}
			wantBelow(t, tr, root, api.MaxNodes, true, nodes...)
		}
	}
}

// TestMostNodes: just MaxNodes nodes, and one more, of the empty suffix and of a node.
func TestMostNodes(t *testing.T) {
	const most = api.MaxNodes
	for _, c := range []struct {
		r   api.Rat
		all bool
	}{
		{q((most-1)*(most-1), 4), true},
		{q((most+1)*(most+1)-1, 4), true},
		{q((most+1)*(most+1), 4), false},
		{api.Rat{Num: power(5000), Den: small(1)}, false},
	} {
		tr := treeOf(t, c.r, []api.Rat{q(1, 2)}, vec(1))
		wantLong(t, tr, nil, 0, most, c.all)
		tr = treeOf(t, c.r, []api.Rat{q(1, 2), q(5, 1)}, vec(1, 0), vec(0, 1))
		wantLong(t, tr, vec(5), 1, most, false)
	}
	// With one number fewer below it, the root has room.
	tr := treeOf(t, q((most-2)*(most-2)/4, 1), []api.Rat{q(0, 1), q(5, 1)}, vec(1, 0), vec(0, 1))
	wantLong(t, tr, vec(5), 1, most, true)
}

// wantLong asks for MaxNodes nodes: the first own of them are the root, all others have one number more.
func wantLong(t *testing.T, tr api.Tree, root []api.Int, own, many int, all bool) {
	t.Helper()
	nodes, is, e := split.Below(tr, api.Job{Root: root}, api.MaxNodes)
	if len(nodes) != many || is != all || e != api.OK {
		t.Fatalf("Below: %d, %v, error %d, instead of %d, %v", len(nodes), is, e, many, all)
	}
	for k, node := range nodes {
		long := len(root) + 1
		if k < own {
			long--
		}
		if !begins(node, root) || len(node) != long {
			t.Fatalf("at %d: %v", k, told(node))
		}
	}
}

// TestDeepDown: MaxDim rows, of which the first nodes go down.
func TestDeepDown(t *testing.T) {
	tr := cubic(t, api.MaxDim, api.Rat{Num: power(4000), Den: small(1)})
	nodes := rows()
	for m := 1; m <= api.MaxDim; m++ {
		nodes = append(nodes, make([]api.Int, m))
	}
	for _, last := range []int64{1, -1, 2, -2} {
		nodes = append(nodes, append(make([]api.Int, api.MaxDim-1), small(last)))
	}
	for most := range nodes {
		wantBelow(t, tr, nil, most, false, nodes[:most]...)
	}
	far := append(make([]api.Int, api.MaxDim-1), power(1999))
	wantBelow(t, tr, far, 1, true, far)
	wantBelow(t, tr, far, 0, false)
	got, all, e := split.Below(tr, api.Job{}, api.MaxNodes)
	if len(got) != api.MaxNodes || all || e != api.OK || len(got[api.MaxNodes-1]) != api.MaxDim {
		t.Errorf("Below: %d, %v, error %d", len(got), all, e)
	}
}
