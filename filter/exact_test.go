package filter_test

import (
	"math/big"
	"math/rand"
	"testing"

	"trammel/api"
	"trammel/filter"
	"trammel/gso"
)

// P10.1, held against the chapter's words.

func TestNorm(t *testing.T) {
	everySuffix(10, func(s subject, m model, x []api.Int) {
		n, e := filter.Norm(s.g, s.t, x)
		want(t, "Norm", n, e, m.norm(x))
	})
}

func TestCentre(t *testing.T) {
	everySuffix(20, func(s subject, m model, x []api.Int) {
		c, e := filter.Centre(s.g, s.t, x)
		if len(x) == m.n {
			refusedRat(t, "Centre", c, e, api.ErrArg)
			return
		}
		want(t, "Centre", c, e, m.centre(x))
	})
}

// child is the norm of a suffix with one number more, worked out from that of the suffix.
type child struct{ norm, centre, star bigRat }

func (m model) child(x []api.Int) child {
	return child{m.norm(x), m.centre(x), m.star[m.n-len(x)-1]}
}

func (c child) of(n bigInt) bigRat {
	off := minus(new(big.Rat).SetInt(n), c.centre)
	return plus(c.norm, times(times(off, off), c.star))
}

// checkRange: a norm grows to both sides of the centre, so it is enough to look at both ends and beside them.
func checkRange(t *testing.T, s subject, c child, x []api.Int, r api.Rat) {
	t.Helper()
	least, most, some, e := filter.Range(s.g, s.t, x, r)
	wantErr(t, "Range", e, api.OK)
	fits := func(n bigInt) bool { return c.of(n).Cmp(value(r)) <= 0 }
	one := big.NewInt(1)
	if !some {
		below := floor(c.centre)
		if fits(below) || fits(new(big.Int).Add(below, one)) {
			t.Errorf("Range of %v by %v: there is one", x, value(r))
		}
		if !alike(least, api.Int{}) || !alike(most, api.Int{}) {
			t.Errorf("Range: %v, %v beside false", least, most)
		}
		return
	}
	lo, hi := whole(least), whole(most)
	if !alike(least, form(lo)) || !alike(most, form(hi)) {
		t.Errorf("Range: %v, %v are not in one form", least, most)
	}
	if lo.Cmp(hi) > 0 || !fits(lo) || !fits(hi) || fits(new(big.Int).Sub(lo, one)) || fits(new(big.Int).Add(hi, one)) {
		t.Errorf("Range of %v by %v: %v to %v", x, value(r), lo, hi)
	}
}

func TestRange(t *testing.T) {
	r := rand.New(rand.NewSource(31))
	everySuffix(30, func(s subject, m model, x []api.Int) {
		if len(x) == m.n {
			a, b, some, e := filter.Range(s.g, s.t, x, q(1, 1))
			refusedRange(t, a, b, some, e, api.ErrArg)
			return
		}
		c := m.child(x)
		// Where a bound is just the norm of a number, that number is the last one that is let.
		for _, off := range []int64{0, 1, -1, int64(r.Intn(50)), -1000} {
			n := floor(c.centre)
			n.Add(n, big.NewInt(off))
			norm := m.norm(and(x, n))
			if norm.Cmp(c.of(n)) != 0 {
				t.Fatalf("the test's own norms differ: %v, %v", norm, c.of(n))
			}
			for _, bound := range bounds(norm)[:3] {
				checkRange(t, s, c, x, bound)
			}
		}
		for _, bound := range bounds(c.norm) {
			checkRange(t, s, c, x, bound)
		}
	})
}

// TestRangeOneByOne looks at each number of a stretch, which takes nothing for granted.
func TestRangeOneByOne(t *testing.T) {
	r := rand.New(rand.NewSource(32))
	for range 300 {
		n := 1 + r.Intn(4)
		g, _ := gso.Of(drawBasis(r, n, digit))
		s := subject{g, targets(r, n)[r.Intn(5)]}
		m := modelOf(s)
		x := drawVector(r, r.Intn(n), digit)
		bound := q(int64(r.Intn(60)-3), int64(1+r.Intn(3)))
		least, most, some, e := filter.Range(s.g, s.t, x, bound)
		wantErr(t, "Range", e, api.OK)
		let := []int64{}
		for k := int64(-150); k <= 150; k++ {
			if m.norm(and(x, big.NewInt(k))).Cmp(value(bound)) <= 0 {
				let = append(let, k)
			}
		}
		if some != (len(let) > 0) {
			t.Errorf("Range: %v, where %v are let", some, let)
		} else if some && (!alike(least, small(let[0])) || !alike(most, small(let[len(let)-1])) || int64(len(let)) != let[len(let)-1]-let[0]+1) {
			t.Errorf("Range: %v to %v, where %v are let", whole(least), whole(most), let)
		}
	}
}

func TestRangeWrittenOut(t *testing.T) {
	line, _ := gso.Of(rows(vec(1)))
	square, _ := gso.Of(rows(vec(1, 0), vec(0, 1)))
	half, third := []api.Rat{q(1, 2)}, []api.Rat{q(-1, 3), q(1, 2)}
	wantRange(t, line, nil, nil, q(0, 1), 0, 0, true)
	wantRange(t, line, nil, nil, q(-1, 1000), 0, 0, false)
	wantRange(t, line, nil, nil, q(99, 100), 0, 0, true)
	wantRange(t, line, nil, nil, q(1, 1), -1, 1, true)
	wantRange(t, line, nil, nil, q(24, 1), -4, 4, true)
	wantRange(t, line, nil, nil, q(25, 1), -5, 5, true)
	wantRange(t, line, half, nil, q(1, 4), 0, 1, true)
	wantRange(t, line, half, nil, q(6, 25), 0, 0, false)
	wantRange(t, line, half, nil, q(9, 4), -1, 2, true)
	wantRange(t, square, third, vec(0), q(1, 4), 0, 0, false)
	wantRange(t, square, third, vec(0), q(13, 36), 0, 0, true)
	wantRange(t, square, third, vec(1), q(25, 36), -1, 0, true)
	wantRange(t, square, third, vec(2), q(2, 1), 0, 0, false)
}

// TestLongSuffixesOfLongData: exact numbers, however great.
func TestLongSuffixesOfLongData(t *testing.T) {
	r := rand.New(rand.NewSource(33))
	for _, n := range []int{3, 12} {
		g, e := gso.Of(drawBasis(r, n, long(8)))
		wantErr(t, "Of", e, api.OK)
		s := subject{g, targets(r, n)[5]}
		m := modelOf(s)
		x := drawVector(r, n, long(8))
		norm, e := filter.Norm(s.g, s.t, x)
		want(t, "Norm", norm, e, m.norm(x))
		checkRange(t, s, m.child(x[:n-1]), x[:n-1], norm)
	}
}
