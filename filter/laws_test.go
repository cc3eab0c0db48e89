package filter_test

import (
	"math/big"
	"math/rand"
	"testing"

	"trammel/api"
	"trammel/filter"
	"trammel/gso"
	"trammel/ival"
	"trammel/rat"
	"trammel/zint"
)

// P10.3 and G6, by the program's own calls.

func TestTheIntervalHoldsTheNorm(t *testing.T) {
	everySuffix(70, func(s subject, m model, x []api.Int) {
		i, _ := made(t, s).Enclose(x)
		n, _ := filter.Norm(s.g, s.t, x)
		if in, e := ival.Holds(i, n); !in || e != api.OK {
			t.Errorf("%v to %v does not hold %v", i.Lo, i.Hi, value(n))
		}
	})
}

func TestWhatIsSureIsSo(t *testing.T) {
	everySuffix(80, func(s subject, m model, x []api.Int) {
		f := made(t, s)
		n, _ := filter.Norm(s.g, s.t, x)
		for _, r := range bounds(value(n)) {
			order, _ := rat.Cmp(n, r)
			k, _ := f.Test(x, r)
			if k == filter.Yes && order > 0 || k == filter.No && order <= 0 {
				t.Errorf("Test of %v by %v: %d", value(n), value(r), k)
			}
			if is, _ := f.Decide(x, r); is != (order <= 0) {
				t.Errorf("Decide of %v by %v: %v", value(n), value(r), is)
			}
		}
	})
}

func TestAllNumbersWithoutTargetHaveTheNormOfTheirSum(t *testing.T) {
	r := rand.New(rand.NewSource(90))
	for _, g := range datas(r) {
		n := len(g.L)
		for range 5 {
			x := drawVector(r, n, long(2))
			inOrder := make([]api.Int, n)
			for k, a := range x {
				inOrder[n-1-k] = a
			}
			norm, e := filter.Norm(g, nil, x)
			sure, _ := gso.Norm(g, inOrder)
			want(t, "Norm", norm, e, value(sure))
		}
	}
}

func TestANumberMoreNeverMakesANormLess(t *testing.T) {
	r := rand.New(rand.NewSource(91))
	everySuffix(92, func(s subject, m model, x []api.Int) {
		if len(x) == m.n {
			return
		}
		less, _ := filter.Norm(s.g, s.t, x)
		c, _ := filter.Centre(s.g, s.t, x)
		near, _ := rat.Near(c)
		best, _ := filter.Norm(s.g, s.t, append(x[:len(x):len(x)], near))
		if order, _ := rat.Cmp(best, less); order < 0 {
			t.Errorf("a number more makes %v of %v", value(best), value(less))
		}
		for _, off := range []api.Int{small(1), small(-1), small(2), small(-2), draw(r, 3)} {
			n, _ := filter.Norm(s.g, s.t, append(x[:len(x):len(x)], zint.Add(near, off)))
			if order, _ := rat.Cmp(n, best); order < 0 {
				t.Errorf("%v off the nearest: %v is less than %v", whole(off), value(n), value(best))
			}
		}
	})
}

// TestRangeLetsAllBetween asks a filter, so that floats and exact numbers are held against each other.
func TestRangeLetsAllBetween(t *testing.T) {
	r := rand.New(rand.NewSource(93))
	asked := 0
	for range 200 {
		n := 1 + r.Intn(4)
		g, _ := gso.Of(drawBasis(r, n, digit))
		target := targets(r, n)[r.Intn(5)]
		f := made(t, subject{g, target})
		x := drawVector(r, r.Intn(n), digit)
		bound := q(int64(r.Intn(200)), int64(1+r.Intn(4)))
		least, most, some, _ := filter.Range(g, target, x, bound)
		if !some {
			continue
		}
		one := big.NewInt(1)
		lo, hi := new(big.Int).Sub(whole(least), one), new(big.Int).Add(whole(most), one)
		for k := new(big.Int).Set(lo); k.Cmp(hi) <= 0; k.Add(k, one) {
			is, _ := f.Decide(and(x, k), bound)
			if is != (k.Cmp(lo) > 0 && k.Cmp(hi) < 0) {
				t.Errorf("%v, where %v to %v are let: %v", k, whole(least), whole(most), is)
			}
			asked++
		}
	}
	if asked < 500 {
		t.Errorf("only %d were asked", asked)
	}
}
