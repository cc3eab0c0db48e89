package pool_test

import (
	"fmt"
	"math/big"
	"math/rand"
	"runtime"
	"slices"
	"testing"
	"time"

	"trammel/api"
	"trammel/crew"
	"trammel/gso"
	"trammel/pool"
	"trammel/tree"
)

// PL5, and G1 to G4 as far as this layer reaches, by the program's own calls.

// allHaveEnded waits a little: a goroutine that has said so may still be about to end.
func allHaveEnded(before int) bool {
	for range 200 {
		if runtime.NumGoroutine() <= before {
			return true
		}
		time.Sleep(time.Millisecond)
	}
	return false
}

// TestAllGoroutinesHaveEnded, whatever is answered.
func TestAllGoroutinesHaveEnded(t *testing.T) {
	before := runtime.NumGoroutine()
	for i, g := range everything(t) {
		for name, call := range calls() {
			g.o.Budget = []int{g.o.Budget, 1, 3}[i%3]
			if call(g); !allHaveEnded(before) {
				t.Fatalf("%s: %d goroutines instead of %d", name, runtime.NumGoroutine(), before)
			}
		}
	}
}

// TestStoppedWorkersEnd, however many jobs are left: one worker is out of a budget for which there are far too many.
func TestStoppedWorkersEnd(t *testing.T) {
	before := runtime.NumGoroutine()
	tr := half(t, 1<<15-1)
	for _, budget := range []int{1, 100, 5000} {
		for _, workers := range []int{1, 3, api.MaxWorkers} {
			o := api.Opt{Workers: workers, Budget: budget}
			refuseSize(t, tr, o, api.ErrBudget)
			refuseWithin(t, tr, o, api.ErrBudget)
			if !allHaveEnded(before) {
				t.Fatalf("%v: %d goroutines instead of %d", o, runtime.NumGoroutine(), before)
			}
		}
	}
}

// bigTree is one of some thousand nodes, without a target or with one.
func bigTree(t *testing.T, r *rand.Rand) api.Tree {
	t.Helper()
	for {
		n := 5 + r.Intn(3)
		g, e := gso.Of(drawBasis(r, n, digit))
		wantErr(t, "Of", e, api.OK)
		tr := api.Tree{G: g, T: targets(r, n)[r.Intn(4)], R: q(int64(20+r.Intn(60)), int64(1+r.Intn(3)))}
		if nodes, all, _ := tree.Nodes(tr, 6000); all && len(nodes) > 500 {
			return tr
		}
	}
}

// TestOneAnswer by all options, and by the layers below: the tree's own nodes, and the search by picks.
func TestOneAnswer(t *testing.T) {
	r := rand.New(rand.NewSource(51))
	for range 12 {
		tr := bigTree(t, r)
		nodes, _, _ := tree.Nodes(tr, api.MaxNodes)
		all := leavesBy(tr, nodes)
		for _, nought := range []bool{false, true} {
			want, e := crew.Found(tr, nought)
			wantErr(t, "Found", e, api.OK)
			for _, o := range ways(len(nodes)) {
				nearestIs(t, tr, nought, o, want)
				nearestIs(t, tr, nought, o, want)
			}
		}
		for _, o := range ways(len(nodes)) {
			wantSize(t, tr, o, len(nodes))
			l, e := pool.Within(tr, o)
			wantFound(t, fmt.Sprint("Within by ", o), l, e, all)
			o.Budget--
			refuseSize(t, tr, o, api.ErrBudget)
			refuseWithin(t, tr, o, api.ErrBudget)
		}
	}
}

// leavesBy are those of a tree's nodes, by the tree's own parts, as they are told.
func leavesBy(tr api.Tree, nodes [][]api.Int) []api.Found {
	out := []leaf{}
	for _, s := range nodes {
		if len(s) == len(tr.G.L) {
			part, _ := tree.Part(tr, s)
			x := slices.Clone(s)
			slices.Reverse(x)
			out = append(out, leaf{x, value(part)})
		}
	}
	return inOrder(out)
}

// TestNothingIsShorter: by gso's own squared lengths, of vectors of small coefficients none is shorter than what is told without a target, and all that are as short are told.
func TestNothingIsShorter(t *testing.T) {
	r := rand.New(rand.NewSource(52))
	for range 40 {
		n := 1 + r.Intn(4)
		b := drawBasis(r, n, digit)
		first := new(big.Int)
		for _, a := range b[0] {
			first.Add(first, new(big.Int).Mul(whole(a), whole(a)))
		}
		g, _ := gso.Of(b)
		l, e := pool.Nearest(api.Tree{G: g, R: api.Rat{Num: form(first), Den: small(1)}}, false, oneWay(r, api.MaxBudget))
		wantErr(t, "Nearest", e, api.OK)
		each(n, 3, func(x []api.Int) {
			norm, _ := gso.Norm(g, x)
			switch value(norm).Cmp(value(l[0].N)) {
			case -1:
				if !isNought(x) {
					t.Errorf("%v is shorter than %s", told(x), inWords(l))
				}
			case 0:
				if !slices.ContainsFunc(l, func(f api.Found) bool { return alikeRow(f.X, x) }) {
					t.Errorf("%v is as short as %s", told(x), inWords(l))
				}
			}
		})
		for _, f := range l {
			if norm, _ := gso.Norm(g, f.X); value(norm).Cmp(value(f.N)) != 0 {
				t.Errorf("%s: the length is not theirs", inWords(l))
			}
		}
	}
}

// each calls f with all lists of n numbers from -most to most.
func each(n int, most int64, f func(x []api.Int)) {
	if n == 0 {
		f(nil)
		return
	}
	each(n-1, most, func(x []api.Int) {
		for k := -most; k <= most; k++ {
			f(append(slices.Clone(x), small(k)))
		}
	})
}

// TestTurnedSigns: without a target with each leaf the one of all signs turned is told, in the opposite order.
func TestTurnedSigns(t *testing.T) {
	r := rand.New(rand.NewSource(53))
	for _, p := range smallTrees(t, 54) {
		p.tr.T = nil
		l, e := pool.Within(p.tr, oneWay(r, api.MaxBudget))
		wantErr(t, "Within", e, api.OK)
		for from := 0; from < len(l); {
			to := from
			for ; to < len(l) && value(l[to].N).Cmp(value(l[from].N)) == 0; to++ {
			}
			for i, f := range l[from:to] {
				turned := []api.Int{}
				for _, a := range l[to-1-i].X {
					turned = append(turned, form(new(big.Int).Neg(whole(a))))
				}
				if !alikeRow(f.X, turned) {
					t.Errorf("%s beside %v", inWords(l[from:to]), told(turned))
				}
			}
			from = to
		}
	}
}
