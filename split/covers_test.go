package split_test

import (
	"math/rand"
	"slices"
	"testing"

	"trammel/api"
	"trammel/split"
)

// SP3, held against the chapter's words.

func wantCovers(t *testing.T, tr api.Tree, done, roots [][]api.Int, most int, is, all bool) {
	t.Helper()
	got, whole, e := split.Covers(tr, done, jobsOf(roots), most)
	if got != is || whole != all || e != api.OK {
		t.Errorf("Covers of %v and %v, %d: %v, %v, error %d, instead of %v, %v", told(done...), told(roots...), most, got, whole, e, is, all)
	}
}

func refuseCovers(t *testing.T, tr api.Tree, done, roots [][]api.Int, most int, by api.Errno) {
	t.Helper()
	if is, all, e := split.Covers(tr, done, jobsOf(roots), most); is || all || e != by {
		t.Errorf("Covers: %v, %v, error %d, instead of error %d", is, all, e, by)
	}
}

// once tells if a node is just one time in done or below a job.
func once(node []api.Int, done, roots [][]api.Int) bool {
	many := 0
	for _, s := range done {
		if alikeRow(inForm(s), node) {
			many++
		}
	}
	for _, root := range roots {
		if begins(node, inForm(root)) {
			many++
		}
	}
	return many == 1
}

// holdCovers holds an answer against all nodes, gone over one by one.
func holdCovers(t *testing.T, tr api.Tree, nodes, done, roots [][]api.Int, most int) bool {
	t.Helper()
	is := true
	for _, node := range nodes[:min(most, len(nodes))] {
		is = is && once(node, done, roots)
	}
	wantCovers(t, tr, done, roots, most, is, most >= len(nodes))
	return is
}

// spoilt is done nodes and jobs with one thing made otherwise; also such as do no harm.
func spoilt(r *rand.Rand, m model, nodes, done, roots [][]api.Int) ([][]api.Int, [][]api.Int) {
	done, roots = slices.Clone(done), slices.Clone(roots)
	lists := []*[][]api.Int{&done, &roots}
	list, other := lists[r.Intn(2)], lists[r.Intn(2)]
	node := slices.Concat(nodes, rows(nil))[r.Intn(len(nodes)+1)]
	at := r.Intn(len(*list) + 1)
	switch r.Intn(9) {
	case 0: // one less
		*list = slices.Delete(*list, min(at, max(0, len(*list)-1)), min(at+1, len(*list)))
	case 1: // a node, or the empty suffix, more
		*list = slices.Insert(*list, at, node)
	case 2: // from one into the other
		*other = append(*other, (*list)[min(at, len(*list)):min(at+1, len(*list))]...)
	case 3: // what is no node
		*list = slices.Insert(*list, at, drawVector(r, 1+r.Intn(m.n+2), long(2)))
	case 4: // a node, and noughts behind it
		*list = slices.Insert(*list, at, append(slices.Clone(node), make([]api.Int, m.n)...))
	case 5: // fields that count for nothing
		for i, s := range *list {
			(*list)[i] = wide(s)
		}
	case 6: // another order
		r.Shuffle(len(*list), func(i, k int) { (*list)[i], (*list)[k] = (*list)[k], (*list)[i] })
	case 7: // a job cut once more; of a great tree's job the first children alone
		if len(roots) > 0 {
			root := roots[0]
			done = append(done, root)
			roots = roots[1:]
			if len(root) < m.n {
				roots = append(roots, m.kids(root, 120)...)
			}
		}
	}
	return done, roots
}

// wide is a suffix with limbs of 0 at its numbers' ends, and a 0 below 0.
func wide(s []api.Int) []api.Int {
	out := []api.Int{}
	for _, x := range s {
		out = append(out, api.Int{Neg: x.Neg || whole(x).Sign() == 0, Mag: slices.Concat(x.Mag, []uint32{0, 0})})
	}
	return out
}

func TestCovers(t *testing.T) {
	r := rand.New(rand.NewSource(20))
	yes, no := 0, 0
	for _, tr := range append(smallTrees(t, 21), smallTrees(t, 22)...) {
		m := modelOf(tr)
		nodes := m.nodes(nil, 200)
		for range 12 {
			done, roots, _ := m.cut(1 + r.Intn(len(nodes)+2))
			for range r.Intn(4) {
				done, roots = spoilt(r, m, nodes, done, roots)
			}
			for _, most := range []int{0, 1, r.Intn(len(nodes) + 1), len(nodes), len(nodes) + 1, api.MaxNodes} {
				if holdCovers(t, tr, nodes, done, roots, most) {
					yes++
				} else {
					no++
				}
			}
		}
	}
	if yes < 1000 || no < 1000 {
		t.Errorf("%d that are covered and %d that are not are few", yes, no)
	}
}

// TestCoversOfTheFirstNodes of great trees.
func TestCoversOfTheFirstNodes(t *testing.T) {
	r := rand.New(rand.NewSource(23))
	for _, tr := range trees(24) {
		m := modelOf(tr)
		most := r.Intn(25)
		nodes := m.nodes(nil, most+1)
		done, roots := rows(), rows()
		for _, node := range nodes {
			if !slices.ContainsFunc(roots, func(root []api.Int) bool { return begins(node, root) }) {
				list := []*[][]api.Int{&done, &roots}[r.Intn(2)]
				*list = append(*list, node)
			}
		}
		if !holdCovers(t, tr, nodes, done, roots, most) {
			t.Errorf("by %v and %v %v are not covered", told(done...), told(roots...), told(nodes...))
		}
		for range 3 {
			done, roots := spoilt(r, m, nodes, done, roots)
			holdCovers(t, tr, nodes, done, roots, most)
		}
	}
}

// TestNumbersThatLookAlike: no two suffixes are taken for one, whatever their numbers put together look like.
func TestNumbersThatLookAlike(t *testing.T) {
	tr := treeOf(t, q(2*12*12, 1), nil, vec(1, 0), vec(0, 1))
	nodes := modelOf(tr).nodes(nil, 2000)
	for _, c := range [][2][]api.Int{
		{vec(1, 12), vec(11, 2)}, {vec(12), vec(1, 2)}, {vec(1, 1), vec(11)}, {vec(1, -1), vec(-1, 1)}, {vec(0), vec(0, 0)}, {vec(1, 0), vec(10)}, {vec(-1), vec(1)},
	} {
		for k := range c {
			has, lacks := c[k], c[1-k]
			at := slices.IndexFunc(nodes, func(s []api.Int) bool { return alikeRow(s, lacks) })
			done := slices.Clone(nodes)
			done[at] = has
			wantCovers(t, tr, done, nil, api.MaxNodes, false, true)
			wantCovers(t, tr, nodes, rows(nil)[:0], api.MaxNodes, true, true)
			wantCovers(t, tr, nodes, rows(append(slices.Clone(lacks), vec(0, 0, 0)...)), api.MaxNodes, true, true)
		}
	}
}

// TestLongNumbers: suffixes differ also where only their numbers' upper limbs do.
func TestLongNumbers(t *testing.T) {
	far := num(false, 7, 0, 0, 1)
	tr := treeOf(t, q(1, 1), []api.Rat{{Num: far, Den: small(1)}}, vec(1))
	above, below := num(false, 8, 0, 0, 1), num(false, 6, 0, 0, 1)
	nodes := rows([]api.Int{far}, []api.Int{above}, []api.Int{below})
	wantCovers(t, tr, nodes[:1], nodes[1:], 3, true, true)
	for k := range nodes {
		for _, other := range [][]api.Int{{num(false, nodes[k][0].Mag[0])}, {num(true, nodes[k][0].Mag...)}, {num(false, nodes[k][0].Mag[0], 0, 1, 1)}} {
			l := slices.Clone(nodes)
			l[k] = other
			wantCovers(t, tr, l[:1], l[1:], 3, false, true)
		}
	}
}

// TestMostNodesAreCovered, and one more is not looked at.
func TestMostNodesAreCovered(t *testing.T) {
	const most = api.MaxNodes
	half := []api.Rat{q(1, 2)}
	for _, c := range []struct {
		r   api.Rat
		all bool
	}{{q((most-1)*(most-1), 4), true}, {q((most+1)*(most+1), 4), false}} {
		tr := treeOf(t, c.r, half, vec(1))
		nodes, all, _ := split.Below(tr, api.Job{}, most)
		if len(nodes) != most || all != c.all {
			t.Fatalf("Below: %d, %v", len(nodes), all)
		}
		wantCovers(t, tr, nil, rows(nil), most, true, c.all)
		if is, whole, e := split.Covers(tr, nodes, nil, most); !is || whole != c.all || e != api.OK {
			t.Errorf("Covers: %v, %v, error %d", is, whole, e)
		}
		if is, whole, e := split.Covers(tr, nodes[:most/2], jobsOf(nodes[most/2:most-1]), most); is || whole != c.all || e != api.OK {
			t.Errorf("Covers: %v, %v, error %d", is, whole, e)
		}
	}
}
