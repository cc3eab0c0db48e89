package pool_test

import (
	"testing"

	"trammel/api"
	"trammel/pool"
)

// PL2.

func wantSize(t *testing.T, tr api.Tree, o api.Opt, want int) {
	t.Helper()
	n, e := pool.Size(tr, o)
	if n != want || e != api.OK {
		t.Errorf("Size by %v: %d, error %d instead of %d", o, n, e, want)
	}
}

func refuseSize(t *testing.T, tr api.Tree, o api.Opt, want api.Errno) {
	t.Helper()
	n, e := pool.Size(tr, o)
	if n != 0 || e != want {
		t.Errorf("Size by %v: %d, error %d instead of %d", o, n, e, want)
	}
}

// sizeIs holds Size to the node: with a budget of all nodes it is told, with one less it is refused.
func sizeIs(t *testing.T, tr api.Tree, many int, o api.Opt) {
	t.Helper()
	for _, budget := range []int{many, many + 1, api.MaxBudget} {
		if o.Budget = budget; budget > 0 && budget <= api.MaxBudget {
			wantSize(t, tr, o, many)
		}
	}
	for _, budget := range []int{1, many / 2, many - 1} {
		if o.Budget = budget; budget > 0 && budget < many {
			refuseSize(t, tr, o, api.ErrBudget)
		}
	}
}

func TestSizeIsTheModels(t *testing.T) {
	for _, p := range fewPlans(t, 21, 60) {
		for _, o := range ways(1) {
			sizeIs(t, p.tr, len(p.nodes), o)
		}
	}
}

// TestSizeOfNone: of a tree without a node.
func TestSizeOfNone(t *testing.T) {
	tr := treeOf(t, q(1, 5), []api.Rat{q(1, 2)}, vec(1))
	for _, o := range ways(1) {
		wantSize(t, tr, o, 0)
	}
}

// manyRows is a tree whose last rows, so many as singles says, let one number each, the five ahead of these two each, the first one width numbers, which is even and below 2^15.
func manyRows(t *testing.T, singles int, width int64) api.Tree {
	t.Helper()
	n := 6 + singles
	b, target := make([][]api.Int, n), make([]api.Rat, n)
	for i := range b {
		b[i] = make([]api.Int, n)
		b[i][i], target[i] = small(1<<15), q(1, 2)
		if i > 5 {
			b[i][i], target[i] = small(1<<16), q(0, 1)
		}
	}
	b[0][0] = small(1)
	return treeOf(t, q(5<<30+(width-1)*(width-1), 4), target, b...)
}

// nodesOf are as many as that has.
func nodesOf(singles int, width int64) int { return singles + 62 + 32*int(width) }

func TestSizeAtTheGreatestBudget(t *testing.T) {
	const width = 1<<15 - 2
	if nodesOf(2, width) != api.MaxBudget {
		t.Fatalf("%d nodes are not the greatest budget", nodesOf(2, width))
	}
	wantSize(t, manyRows(t, 2, width), api.Opt{Workers: 1, Budget: api.MaxBudget}, api.MaxBudget)
	o := api.Opt{Workers: 8, Budget: api.MaxBudget, Filter: true}
	wantSize(t, manyRows(t, 2, width), o, api.MaxBudget)
	refuseSize(t, manyRows(t, 3, width), o, api.ErrBudget)
	o.Budget--
	refuseSize(t, manyRows(t, 2, width), o, api.ErrBudget)
}

// TestSizeOfWhatIsWide: a row that lets more numbers than can be cut.
func TestSizeOfWhatIsWide(t *testing.T) {
	many := 1 << 17
	for _, workers := range []int{1, 4} {
		o := api.Opt{Workers: workers, Budget: many}
		wantSize(t, half(t, int64(many/2-1)), o, many)
		refuseSize(t, half(t, int64(many/2)), o, api.ErrBudget)
		refuseSize(t, wide(t), o, api.ErrBudget)
	}
}
