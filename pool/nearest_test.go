package pool_test

import (
	"fmt"
	"math/big"
	"math/rand"
	"testing"

	"trammel/api"
	"trammel/pool"
)

// PL4 and PL6.

func refuseNearest(t *testing.T, tr api.Tree, nought bool, o api.Opt, want api.Errno) {
	t.Helper()
	l, e := pool.Nearest(tr, nought, o)
	if len(l) != 0 || e != want {
		t.Errorf("Nearest by %v, %v: %s, error %d instead of %d", nought, o, inWords(l), e, want)
	}
}

// nearestIs holds Nearest to the leaves that it must tell, or to there being none.
func nearestIs(t *testing.T, tr api.Tree, nought bool, o api.Opt, want []api.Found) {
	t.Helper()
	if len(want) == 0 {
		refuseNearest(t, tr, nought, o, api.ErrNone)
		return
	}
	l, e := pool.Nearest(tr, nought, o)
	wantFound(t, fmt.Sprint("Nearest by ", nought, o), l, e, want)
}

// mustBeSeen is how many nodes none may leave out: those up to the part that is told, all if none is.
func (p plan) mustBeSeen(want []api.Found) int {
	if len(want) == 0 {
		return len(p.nodes)
	}
	return p.upTo(value(want[0].N))
}

func TestNearestIsTheModels(t *testing.T) {
	none, several, left := 0, 0, 0
	for _, p := range fewPlans(t, 41, 60) {
		for _, nought := range []bool{false, true} {
			want := inOrder(p.least(nought))
			if len(want) == 0 {
				none++
			} else if len(want) > 1 {
				several++
			}
			if p.mustBeSeen(want) < len(p.nodes) {
				left++
			}
			for _, o := range ways(max(1, len(p.nodes))) {
				nearestIs(t, p.tr, nought, o, want)
				o.Budget = api.MaxBudget
				nearestIs(t, p.tr, nought, o, want)
			}
		}
	}
	if none < 10 || several < 50 || left < 50 {
		t.Errorf("%d without a leaf, %d with several, %d with what may be left out are few", none, several, left)
	}
}

// TestNearestByLess than all nodes: right, or out, which it must be if even what must be seen is too much.
func TestNearestByLess(t *testing.T) {
	r := rand.New(rand.NewSource(42))
	right, out := 0, 0
	for _, p := range fewPlans(t, 43, 60) {
		for _, o := range ways(1) {
			nought := r.Intn(2) == 0
			want := inOrder(p.least(nought))
			must := p.mustBeSeen(want)
			if o.Budget = must - 1; o.Budget > 0 {
				refuseNearest(t, p.tr, nought, o, api.ErrBudget)
			}
			if o.Budget = must + r.Intn(1+len(p.nodes)-must); o.Budget == 0 {
				continue
			}
			l, e := pool.Nearest(p.tr, nought, o)
			switch {
			case e == api.ErrBudget && o.Budget < len(p.nodes) && len(l) == 0:
				out++
			case e == api.ErrNone && len(want) == 0 && len(l) == 0:
				right++
			default:
				wantFound(t, fmt.Sprint("Nearest by ", nought, o), l, e, want)
				right++
			}
		}
	}
	if right < 100 || out < 100 {
		t.Errorf("%d right ones, %d out are few", right, out)
	}
}

// TestNearestLeavesOut what is far off: of far too many nodes few must be seen, and few are, since the first leaf of each job is the nearest one there.
func TestNearestLeavesOut(t *testing.T) {
	// One worker alone sees these: 1, or 0 and -1, then nothing that is as near.
	line := treeOf(t, api.Rat{Num: power(99), Den: small(1)}, []api.Rat{q(2, 3)}, vec(1))
	for _, o := range []api.Opt{{Workers: 1, Budget: 100}, {Workers: 5, Budget: 100, Filter: true}} {
		nearestIs(t, line, true, o, leaves(q(1, 9), vec(1)))
		nearestIs(t, line, false, o, leaves(q(1, 9), vec(1)))
		nearestIs(t, wide(t), true, o, leaves(q(0, 1), vec(0, 0)))
		nearestIs(t, wide(t), false, o, leaves(q(1, 1), vec(-1, 0), vec(0, -1), vec(0, 1), vec(1, 0)))
	}
	far := treeOf(t, q(200*200, 1), []api.Rat{q(1, 2), q(1, 3), q(1, 2)}, vec(1, 0, 0), vec(0, 1, 0), vec(0, 0, 1))
	refuseSize(t, far, api.Opt{Workers: 8, Budget: api.MaxBudget}, api.ErrBudget)
	want := leaves(terms(big.NewRat(11, 18)), vec(0, 0, 0), vec(0, 0, 1), vec(1, 0, 0), vec(1, 0, 1))
	for _, o := range ways(api.MaxBudget / 2) {
		nearestIs(t, far, true, o, want)
	}
}

// TestFloatsLeaveItOpen: where they are not sure which is nearer, or if anything is within the bound, exact numbers decide.
func TestFloatsLeaveItOpen(t *testing.T) {
	third := []api.Rat{q(1, 3), q(1, 3)}
	tiny := new(big.Rat).SetFrac(big.NewInt(1), whole(power(200)))
	for _, c := range []struct {
		r    bigRat
		none bool
	}{{big.NewRat(2, 9), false}, {minus(big.NewRat(2, 9), tiny), true}, {plus(big.NewRat(2, 9), tiny), false}} {
		tr := treeOf(t, terms(c.r), third, vec(1, 0), vec(0, 1))
		for _, o := range ways(50) {
			if c.none {
				refuseNearest(t, tr, true, o, api.ErrNone)
			} else {
				nearestIs(t, tr, true, o, leaves(q(2, 9), vec(0, 0)))
			}
		}
	}
	// Two that differ by far less than floats can tell, and two that don't.
	almost := []api.Rat{terms(plus(big.NewRat(1, 2), tiny)), q(1, 2)}
	tr := treeOf(t, q(3, 1), almost, vec(1, 0), vec(0, 1))
	d := minus(big.NewRat(1, 2), tiny)
	n := terms(plus(times(d, d), big.NewRat(1, 4)))
	for _, o := range ways(100) {
		nearestIs(t, tr, true, o, leaves(n, vec(1, 0), vec(1, 1)))
	}
}
