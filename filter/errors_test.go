package filter_test

import (
	"math/rand"
	"slices"
	"testing"

	"trammel/api"
	"trammel/filter"
	"trammel/gso"
)

// The errors, in their order; beside one all else is zero.

func refusedRat(t *testing.T, what string, got api.Rat, e, by api.Errno) {
	t.Helper()
	if e != by || got.Num.Neg || got.Den.Neg || len(got.Num.Mag) != 0 || len(got.Den.Mag) != 0 {
		t.Errorf("%s: %v, error %d, instead of error %d", what, got, e, by)
	}
}

func refusedRange(t *testing.T, a, b api.Int, some bool, e, by api.Errno) {
	t.Helper()
	if e != by || some || a.Neg || b.Neg || len(a.Mag) != 0 || len(b.Mag) != 0 {
		t.Errorf("Range: %v, %v, %v, error %d, instead of error %d", a, b, some, e, by)
	}
}

// refuse asks all calls over data.
func refuse(t *testing.T, g api.Gso, target []api.Rat, x []api.Int, r api.Rat, by api.Errno) {
	t.Helper()
	n, e := filter.Norm(g, target, x)
	refusedRat(t, "Norm", n, e, by)
	c, e := filter.Centre(g, target, x)
	refusedRat(t, "Centre", c, e, by)
	a, b, some, e := filter.Range(g, target, x, r)
	refusedRange(t, a, b, some, e, by)
}

func refuseNew(t *testing.T, g api.Gso, target []api.Rat, by api.Errno) {
	t.Helper()
	if f, e := filter.New(g, target); f != nil || e != by {
		t.Errorf("New: %v, error %d, instead of error %d", f, e, by)
	}
}

func TestErrGsoIsTheFirst(t *testing.T) {
	for _, g := range unfit() {
		for _, target := range [][]api.Rat{nil, unfitRats(), {q(1, 2)}, {q(1, 0)}} {
			for _, x := range [][]api.Int{nil, vec(1), vec(1, 2, 3, 4, 5)} {
				refuse(t, g, target, x, q(1, 0), api.ErrGso)
				refuse(t, g, target, x, q(1, 1), api.ErrGso)
			}
			refuseNew(t, g, target, api.ErrGso)
		}
	}
}

func TestErrShapeIsTheNext(t *testing.T) {
	r := rand.New(rand.NewSource(61))
	for _, g := range datas(r) {
		n := len(g.L)
		for _, bad := range []api.Rat{q(1, 3), q(1, 0)} {
			for _, m := range []int{1, n - 1, n + 1, 2 * n, 100} {
				if m == n || m < 1 {
					continue
				}
				target := slices.Repeat([]api.Rat{bad}, m)
				for _, x := range [][]api.Int{nil, make([]api.Int, n), make([]api.Int, n+1)} {
					refuse(t, g, target, x, bad, api.ErrShape)
				}
				refuseNew(t, g, target, api.ErrShape)
			}
			for _, target := range [][]api.Rat{nil, slices.Repeat([]api.Rat{bad}, n)} {
				refuse(t, g, target, make([]api.Int, n+1), bad, api.ErrShape)
				refuse(t, g, target, make([]api.Int, 300), bad, api.ErrShape)
			}
		}
	}
}

func TestErrRatAheadOfErrArg(t *testing.T) {
	r := rand.New(rand.NewSource(62))
	for _, g := range datas(r) {
		n := len(g.L)
		for _, bad := range unfitRats() {
			for at := range n {
				target := slices.Repeat([]api.Rat{q(1, 2)}, n)
				target[at] = bad
				for m := range n + 1 {
					refuse(t, g, target, make([]api.Int, m), q(5, 1), api.ErrRat)
				}
				refuseNew(t, g, target, api.ErrRat)
			}
			for m := range n + 1 {
				a, b, some, e := filter.Range(g, nil, make([]api.Int, m), bad)
				refusedRange(t, a, b, some, e, api.ErrRat)
			}
		}
	}
}

func TestErrArg(t *testing.T) {
	r := rand.New(rand.NewSource(63))
	for _, s := range subjects(64) {
		x := drawVector(r, len(s.g.L), digit)
		c, e := filter.Centre(s.g, s.t, x)
		refusedRat(t, "Centre", c, e, api.ErrArg)
		a, b, some, e := filter.Range(s.g, s.t, x, q(-1, 1))
		refusedRange(t, a, b, some, e, api.ErrArg)
		if _, e := filter.Norm(s.g, s.t, x); e != api.OK {
			t.Errorf("Norm of all numbers: error %d", e)
		}
	}
}

// refuseAsked asks all calls over a filter and a suffix.
func refuseAsked(t *testing.T, f *filter.Filter, x []api.Int, r api.Rat, by api.Errno) {
	t.Helper()
	if k, e := f.Test(x, r); k != 0 || e != by {
		t.Errorf("Test: %d, error %d, instead of error %d", k, e, by)
	}
	if is, e := f.Decide(x, r); is || e != by {
		t.Errorf("Decide: %v, error %d, instead of error %d", is, e, by)
	}
	if by == api.ErrRat {
		return
	}
	if i, e := f.Enclose(x); !equal(i, api.Ival{}) || e != by {
		t.Errorf("Enclose: %v, error %d, instead of error %d", i, e, by)
	}
}

func TestFiltersRefuse(t *testing.T) {
	r := rand.New(rand.NewSource(65))
	for _, g := range datas(r) {
		f := made(t, subject{g: g})
		n := len(g.L)
		for _, bad := range append(unfitRats(), q(1, 1)) {
			refuseAsked(t, f, make([]api.Int, n+1), bad, api.ErrShape)
			refuseAsked(t, f, make([]api.Int, 200), bad, api.ErrShape)
		}
		for _, bad := range unfitRats() {
			for m := range n + 1 {
				refuseAsked(t, f, make([]api.Int, m), bad, api.ErrRat)
			}
		}
		wantCounts(t, f, 0, 0)
	}
}

// TestFiltersThatNoCallMade answer ErrZero ahead of all, and keep nothing.
func TestFiltersThatNoCallMade(t *testing.T) {
	for _, f := range []*filter.Filter{nil, {}, new(filter.Filter)} {
		for range 2 {
			for _, x := range [][]api.Int{nil, {}, vec(1), vec(1, 2, 3)} {
				refuseAsked(t, f, x, q(1, 1), api.ErrZero)
				refuseAsked(t, f, x, q(1, 0), api.ErrZero)
			}
			wantErr(t, "Reset", f.Reset(), api.ErrZero)
			wantCounts(t, f, 0, 0)
		}
	}
}

// TestTargetsOfOneRow: a target of one number is no other length there.
func TestTargetsOfOneRow(t *testing.T) {
	g, _ := gso.Of(rows(vec(2)))
	n, e := filter.Norm(g, []api.Rat{q(1, 2)}, vec(1))
	want(t, "Norm", n, e, power(0))
	refuseNew(t, g, []api.Rat{q(1, 2), q(1, 2)}, api.ErrShape)
}
