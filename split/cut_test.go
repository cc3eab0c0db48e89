package split_test

import (
	"math/big"
	"math/rand"
	"slices"
	"testing"

	"trammel/api"
	"trammel/split"
)

// SP1, held against the chapter's words.

const (
	tooWide = -1 // a suffix that is cut has more than MaxNodes children
	skipped = -2 // a suffix that is cut has so many that they are not gone over one by one
)

// cut is what comes of cutting by the chapter's words: done nodes and jobs; and OK, tooWide or skipped.
func (m model) cut(many int) ([][]api.Int, [][]api.Int, int) {
	done, jobs := rows(), rows(nil)
	for len(jobs) < many {
		at := slices.IndexFunc(jobs, func(s []api.Int) bool { return len(s) < m.n })
		if at < 0 {
			break
		}
		s := jobs[at]
		width := m.width(s)
		switch {
		case width.Cmp(big.NewInt(api.MaxNodes)) > 0:
			return nil, nil, tooWide
		case width.Cmp(big.NewInt(1000)) > 0:
			return nil, nil, skipped
		}
		jobs = slices.Delete(jobs, at, at+1)
		if len(s) > 0 {
			done = append(done, s)
		}
		jobs = append(jobs, m.kids(s, int(width.Int64()))...)
	}
	return done, jobs, 0
}

// isWide tells if the empty suffix has more than MaxNodes children, so that the tree can't be cut.
func isWide(tr api.Tree) bool {
	return modelOf(tr).width(nil).Cmp(big.NewInt(api.MaxNodes)) > 0
}

// rootsOf are the jobs as rows.
func rootsOf(jobs []api.Job) [][]api.Int {
	out := rows()
	for _, j := range jobs {
		out = append(out, j.Root)
	}
	return out
}

// jobsOf are jobs with these roots.
func jobsOf(l [][]api.Int) []api.Job {
	out := []api.Job{}
	for _, root := range l {
		out = append(out, api.Job{Root: root})
	}
	return out
}

func wantJobs(t *testing.T, tr api.Tree, many int, done, roots [][]api.Int) {
	t.Helper()
	d, j, e := split.Jobs(tr, many)
	if !alikeRows(d, done) || !alikeRows(rootsOf(j), roots) || e != api.OK {
		t.Errorf("Jobs to %d: %v and %v, error %d, instead of %v and %v", many, told(d...), told(rootsOf(j)...), e, told(done...), told(roots...))
	}
}

func refuseJobs(t *testing.T, tr api.Tree, many int, by api.Errno) {
	t.Helper()
	if d, j, e := split.Jobs(tr, many); len(d) != 0 || len(j) != 0 || e != by {
		t.Errorf("Jobs to %d: %d done, %d jobs, error %d, instead of error %d", many, len(d), len(j), e, by)
	}
}

func TestJobs(t *testing.T) {
	r := rand.New(rand.NewSource(1))
	cut, wide := 0, 0
	for _, tr := range append(trees(2), smallTrees(t, 3)...) {
		m := modelOf(tr)
		l := []int{1, 2, 3 + r.Intn(30), 40 + r.Intn(200)}
		if isWide(tr) {
			l = []int{1, 2 + r.Intn(api.MaxJobs-1)}
		}
		for _, many := range l {
			done, roots, how := m.cut(many)
			switch how {
			case 0:
				wantJobs(t, tr, many, done, roots)
				cut++
			case tooWide:
				refuseJobs(t, tr, many, api.ErrLong)
				wide++
			}
		}
	}
	if cut < 400 || wide < 50 {
		t.Errorf("%d that were cut and %d that were too wide are few", cut, wide)
	}
}

// TestAllOfSmallTrees: cut to the leaves, and one by one up to there.
func TestAllOfSmallTrees(t *testing.T) {
	for _, tr := range smallTrees(t, 4) {
		m := modelOf(tr)
		for many := 1; many <= 125; many += 1 + many/20 {
			done, roots, _ := m.cut(many)
			wantJobs(t, tr, many, done, roots)
		}
		done, roots, _ := m.cut(api.MaxJobs)
		wantJobs(t, tr, api.MaxJobs, done, roots)
		for _, root := range roots {
			if len(root) != m.n {
				t.Errorf("%v is left", told(root))
			}
		}
	}
}

// cubic is the tree of n orthogonal rows of length 1 up to r.
func cubic(t *testing.T, n int, r api.Rat) api.Tree {
	t.Helper()
	b := [][]api.Int{}
	for i := range n {
		row := make([]api.Int, n)
		row[i] = small(1)
		b = append(b, row)
	}
	return treeOf(t, r, nil, b...)
}

// zigzagRoots are the first many numbers about 0, each as a root.
func zigzagRoots(many int) [][]api.Int {
	out := rows()
	for k := range many {
		x := int64(k+1) / 2
		if k%2 == 0 {
			x = -x
		}
		out = append(out, vec(x))
	}
	return out
}

// TestMostJobs: just as many as may be asked for stand at once, and one more is asked for in vain.
func TestMostJobs(t *testing.T) {
	// Up to 2047 squared there are 4095 numbers, so one more is to be had by the first one's cut alone.
	tr := cubic(t, 2, q(2047*2047, 1))
	roots := zigzagRoots(4095)
	wantJobs(t, tr, api.MaxJobs-1, nil, roots)
	deeper := slices.Clone(roots[1:])
	for _, x := range roots {
		deeper = append(deeper, append(vec(0), x...))
	}
	wantJobs(t, tr, api.MaxJobs, rows(vec(0)), deeper)
	refuseJobs(t, tr, api.MaxJobs+1, api.ErrArg)
}

// TestManyLevels: each of 4095 nodes has but one child, row for row, down to the leaves.
func TestManyLevels(t *testing.T) {
	const n = 6
	b := [][]api.Int{}
	for i := range n {
		row := make([]api.Int, n)
		row[i] = small(1 << 20)
		b = append(b, row)
	}
	b[n-1][n-1] = small(1)
	done, leaves := rows(), rows()
	for m := range n {
		for _, x := range zigzagRoots(4095) {
			node := append(x, make([]api.Int, m)...)
			if m < n-1 {
				done = append(done, node)
			} else {
				leaves = append(leaves, node)
			}
		}
	}
	wantJobs(t, treeOf(t, q(2047*2047, 1), nil, b...), api.MaxJobs, done, leaves)
}

// TestTooManyChildren: just MaxNodes children, and one more, of the empty suffix and of a later one; and of one that is not cut.
func TestTooManyChildren(t *testing.T) {
	const most = api.MaxNodes
	half := []api.Rat{q(1, 2)}
	for _, many := range []int{2, 3, api.MaxJobs} {
		for _, r := range []api.Rat{q((most-1)*(most-1), 4), q((most+1)*(most+1)-1, 4)} {
			if d, j, e := split.Jobs(treeOf(t, r, half, vec(1)), many); len(d) != 0 || len(j) != most || e != api.OK {
				t.Errorf("Jobs: %d, %d, error %d", len(d), len(j), e)
			}
		}
		for _, r := range []api.Rat{q((most+1)*(most+1), 4), {Num: power(5000), Den: small(1)}} {
			refuseJobs(t, treeOf(t, r, half, vec(1)), many, api.ErrLong)
		}
	}
	wantJobs(t, treeOf(t, api.Rat{Num: power(5000), Den: small(1)}, half, vec(1)), 1, nil, rows(nil))
	// The last row is as long as the bound: it is taken -1, 0, 1 times, and only where it is taken 0 times are there more than MaxNodes children.
	tr := treeOf(t, q(most*most, 4), nil, vec(1, 0), vec(0, most/2))
	for many := 1; many <= 3; many++ {
		wantJobs(t, tr, many, nil, [][][]api.Int{rows(nil), rows(vec(0), vec(1), vec(-1))}[min(many-1, 1)])
	}
	refuseJobs(t, tr, 4, api.ErrLong)
	refuseJobs(t, tr, api.MaxJobs, api.ErrLong)
	// About 1/2 there are just MaxNodes of them.
	tr.T = []api.Rat{q(1, 2), q(0, 1)}
	d, j, e := split.Jobs(tr, 4)
	if !alikeRows(d, rows(vec(0))) || len(j) != 2+most || e != api.OK {
		t.Errorf("Jobs: %v, %d, error %d", told(d...), len(j), e)
	}
}

// TestNodesWithoutChildren are done, and leave no job: with them the jobs may become fewer, or none.
func TestNodesWithoutChildren(t *testing.T) {
	// About 1/2 of the first row no leaf is nearer than 1/2.
	tr := treeOf(t, q(1, 5), []api.Rat{q(1, 2), q(0, 1)}, vec(1, 0), vec(0, 1))
	wantJobs(t, tr, 1, nil, rows(nil))
	for _, many := range []int{2, 9, api.MaxJobs} {
		wantJobs(t, tr, many, rows(vec(0)), nil)
	}
	// No node at all.
	tr.T = []api.Rat{q(0, 1), q(1, 2)}
	wantJobs(t, tr, 1, nil, rows(nil))
	wantJobs(t, tr, 2, nil, nil)
	// Twice the last row the first one's half: -1 and 1 have no child, 0 has one.
	tr = treeOf(t, q(1, 1), nil, vec(4, 0), vec(2, 1))
	wantJobs(t, tr, 3, nil, rows(vec(0), vec(1), vec(-1)))
	wantJobs(t, tr, 4, rows(vec(0), vec(1), vec(-1)), rows(vec(0, 0)))
}
