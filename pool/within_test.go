package pool_test

import (
	"fmt"
	"math/big"
	"testing"

	"trammel/api"
	"trammel/pool"
)

// PL3.

func refuseWithin(t *testing.T, tr api.Tree, o api.Opt, want api.Errno) {
	t.Helper()
	l, e := pool.Within(tr, o)
	if len(l) != 0 || e != want {
		t.Errorf("Within by %v: %s, error %d instead of %d", o, inWords(l), e, want)
	}
}

// withinIs holds Within to the leaves, and to the node.
func withinIs(t *testing.T, p plan, want []api.Found, o api.Opt) {
	t.Helper()
	many := len(p.nodes)
	for _, budget := range []int{many, many + 1, api.MaxBudget} {
		if o.Budget = budget; budget > 0 {
			l, e := pool.Within(p.tr, o)
			wantFound(t, fmt.Sprint("Within by ", o), l, e, want)
		}
	}
	for _, budget := range []int{1, many / 2, many - 1} {
		if o.Budget = budget; budget > 0 && budget < many {
			refuseWithin(t, p.tr, o, api.ErrBudget)
		}
	}
}

func TestWithinIsTheModels(t *testing.T) {
	equal, several := 0, 0
	for _, p := range fewPlans(t, 31, 60) {
		want := inOrder(p.leaves())
		for i, f := range want {
			if i > 0 && value(f.N).Cmp(value(want[i-1].N)) == 0 {
				equal++
			} else if i > 0 {
				several++
			}
		}
		for _, o := range ways(1) {
			withinIs(t, p, want, o)
		}
	}
	if equal < 100 || several < 100 {
		t.Errorf("%d leaves of the part of the one ahead, %d of a greater one are few", equal, several)
	}
}

// TestWithinAtItsLimit: all of 2^16 leaves are told, of one more none.
func TestWithinAtItsLimit(t *testing.T) {
	for _, workers := range []int{1, 6} {
		o := api.Opt{Workers: workers, Budget: api.MaxNodes}
		l, e := pool.Within(half(t, 1<<15-1), o)
		if len(l) != api.MaxNodes || e != api.OK {
			t.Fatalf("Within by %v: %s, error %d", o, inWords(l), e)
		}
		for i, f := range l {
			// Two by two: -k and k + 1 are as far from 1/2.
			k := int64(i / 2)
			x := small(-k)
			if i%2 == 1 {
				x = small(k + 1)
			}
			if !alikeFound(f, api.Found{X: []api.Int{x}, N: terms(big.NewRat((2*k+1)*(2*k+1), 4))}) {
				t.Fatalf("Within by %v: at %d %s", o, i, inWords(l[i:i+1]))
			}
		}
		more := line(t, 1<<30) // of 2^16 + 1 numbers
		refuseWithin(t, more, o, api.ErrBudget)
		o.Budget++
		refuseWithin(t, more, o, api.ErrLong)
		o.Budget = api.MaxBudget
		refuseWithin(t, more, o, api.ErrLong)
	}
}

// TestTooManyLeavesOfManyJobs, where there are more nodes than leaves: too small a budget comes first.
func TestTooManyLeavesOfManyJobs(t *testing.T) {
	many, numbers := 0, 0
	const far = 145
	for x := -far; x <= far; x++ {
		numbers++
		for y := -far; y <= far; y++ {
			if x*x+y*y <= far*far {
				many++
			}
		}
	}
	if many <= api.MaxNodes {
		t.Fatalf("%d leaves are few", many)
	}
	tr := treeOf(t, q(far*far, 1), nil, vec(1, 0), vec(0, 1))
	for _, workers := range []int{1, 4, api.MaxWorkers} {
		o := api.Opt{Workers: workers, Budget: many + numbers}
		wantSize(t, tr, o, many+numbers)
		refuseWithin(t, tr, o, api.ErrLong)
		o.Budget--
		refuseWithin(t, tr, o, api.ErrBudget)
	}
}
