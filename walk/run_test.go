package walk_test

import (
	"math/big"
	"math/rand"
	"testing"

	"trammel/api"
	"trammel/walk"
)

// P12.5, and walkers through great trees, held against chapter 11's words.

func TestRun(t *testing.T) {
	r := rand.New(rand.NewSource(30))
	whole, cut := 0, 0
	for _, tr := range trees(31) {
		m := modelOf(tr)
		for k, root := range roots(r, m) {
			if k > 0 && r.Intn(6) > 0 {
				continue
			}
			most := r.Intn(20)
			nodes := m.from(root, most+1)
			all := len(nodes) <= most
			wantRun(t, tr, root, most, all, nodes[:min(most, len(nodes))]...)
			if all {
				whole++
			} else {
				cut++
			}
		}
	}
	if whole < 300 || cut < 300 {
		t.Errorf("%d that are told whole and %d others are few", whole, cut)
	}
}

// TestRunIsCutWhereItIsSaid: also just at the end, and at none.
func TestRunIsCutWhereItIsSaid(t *testing.T) {
	r := rand.New(rand.NewSource(32))
	for _, tr := range smallTrees(t, 33) {
		m := modelOf(tr)
		for _, root := range roots(r, m) {
			nodes := m.from(root, 200)
			many := len(nodes)
			for _, most := range []int{0, 1, many - 1, many, many + 1, api.MaxNodes} {
				if most >= 0 {
					wantRun(t, tr, root, most, most >= many, nodes[:min(most, many)]...)
				}
			}
		}
	}
}

// TestShrinkInGreatTrees: the bound becomes the part of a node at which the walker stands, or a half of it, so that it goes up from there, or on below.
func TestShrinkInGreatTrees(t *testing.T) {
	r := rand.New(rand.NewSource(34))
	shrunk := 0
	for _, tr := range trees(35) {
		m := modelOf(tr)
		w := made(t, tr, nil)
		last := []api.Int{}
		for range 2 * m.n {
			node, some := w.Next()
			if sure := m.behindNode(last); !alikeRow(node, sure) || some != (len(sure) > 0) {
				t.Fatalf("Next behind %v: %v, %v, instead of %v", told(last), told(node), some, told(sure))
			}
			if last = node; !some {
				break
			}
			part := m.part(node)
			wantPart(t, w, terms(part))
			if r.Intn(3) == 0 {
				if r.Intn(3) == 0 {
					part = times(part, big.NewRat(1, 2))
				}
				wantErr(t, "Shrink", w.Shrink(terms(part)), api.OK)
				m.r = part
				shrunk++
			}
		}
	}
	if shrunk < 200 {
		t.Errorf("%d times are few", shrunk)
	}
}

// behindNode is the first node behind s: below it, or beside one of those that begin it.
func (m model) behindNode(s []api.Int) []api.Int {
	if kids := m.nodes(s, 1); len(kids) > 0 && m.part(s).Cmp(m.r) <= 0 {
		return kids[0]
	}
	for k := len(s); k > 0; k-- {
		c := m.centre(s[:k-1])
		if node := and(s[:k-1], next(c, whole(s[k-1]))); m.part(node).Cmp(m.r) <= 0 {
			return node
		}
	}
	return nil
}

// TestMostNodes: just MaxNodes nodes, and more of them, also beyond all counting.
func TestMostNodes(t *testing.T) {
	const most = api.MaxNodes
	for _, c := range []struct {
		r   api.Rat
		all bool
	}{
		{q((most-1)*(most-1), 4), true},
		{q((most+1)*(most+1)-1, 4), true},
		{q((most+1)*(most+1), 4), false},
		{api.Rat{Num: power(5000), Den: small(1)}, false},
	} {
		tr := treeOf(t, c.r, []api.Rat{q(1, 2)}, vec(1))
		nodes, all, e := walk.Run(tr, nil, most)
		if len(nodes) != most || all != c.all || e != api.OK {
			t.Errorf("Run: %d, %v, error %d", len(nodes), all, e)
		}
		for k, node := range nodes {
			n := small(int64(k/2 + 1))
			if k%2 == 1 {
				n = small(int64(-k / 2))
			}
			if !alikeRow(node, []api.Int{n}) {
				t.Fatalf("at %d: %v instead of %v", k, told(node), whole(n))
			}
		}
	}
}

// TestMostRows: a walker goes down MaxDim rows, and beside the last one first.
func TestMostRows(t *testing.T) {
	b := [][]api.Int{}
	for i := range api.MaxDim {
		row := make([]api.Int, api.MaxDim)
		row[i] = small(1)
		b = append(b, row)
	}
	tr := treeOf(t, api.Rat{Num: power(4000), Den: small(1)}, nil, b...)
	w := made(t, tr, nil)
	for m := 1; m <= api.MaxDim; m++ {
		wantNext(t, w, make([]api.Int, m))
	}
	for _, last := range []int64{1, -1, 2, -2} {
		node := make([]api.Int, api.MaxDim)
		node[api.MaxDim-1] = small(last)
		wantNext(t, w, node)
	}
	wantErr(t, "Shrink", w.Shrink(q(1, 2)), api.OK)
	wantEnd(t, w)
	far := append(make([]api.Int, api.MaxDim-1), power(1999))
	w = made(t, tr, far)
	wantNext(t, w, far)
	wantEnd(t, w)
}
