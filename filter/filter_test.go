package filter_test

import (
	"math"
	"math/big"
	"testing"

	"trammel/api"
	"trammel/filter"
	"trammel/gso"
	"trammel/ival"
)

// P10.2, held against the chapter's words.

// made is a filter over a subject.
func made(t *testing.T, s subject) *filter.Filter {
	t.Helper()
	f, e := filter.New(s.g, s.t)
	if f == nil || e != api.OK {
		t.Fatalf("New(%v): error %d", s, e)
	}
	return f
}

// about is chapter 9's interval of a number.
func about(r bigRat) api.Ival {
	out, _ := ival.OfRat(terms(r))
	return out
}

// interval is that of a suffix, in the order that the chapter says.
func (m model) interval(x []api.Int) api.Ival {
	out := api.Ival{}
	for i := m.n - 1; i >= m.n-len(x); i-- {
		w := about(m.shift(x, i))
		for j := i + 1; j <= m.n-1; j++ {
			p, _ := ival.Mul(about(m.shift(x, j)), about(m.mu[j][i]))
			w, _ = ival.Add(w, p)
		}
		p, _ := ival.Sqr(w)
		p, _ = ival.Mul(p, about(m.star[i]))
		out, _ = ival.Add(out, p)
	}
	return out
}

// tested is the test of a suffix with this interval, as the chapter says.
func tested(i api.Ival, r api.Rat) int {
	k := about(value(r))
	switch {
	case !(i.Hi > k.Lo):
		return filter.Yes
	case i.Lo > k.Hi:
		return filter.No
	}
	return filter.Unsure
}

// equal tells intervals apart by their bits, so +0 from -0.
func equal(a, b api.Ival) bool {
	return math.Float64bits(a.Lo) == math.Float64bits(b.Lo) && math.Float64bits(a.Hi) == math.Float64bits(b.Hi)
}

func TestEnclose(t *testing.T) {
	everySuffix(40, func(s subject, m model, x []api.Int) {
		f := made(t, s)
		i, e := f.Enclose(x)
		if !equal(i, m.interval(x)) || e != api.OK {
			t.Errorf("Enclose(%v): %x to %x, error %d, instead of %v", x, i.Lo, i.Hi, e, m.interval(x))
		}
	})
}

func TestTestAndDecide(t *testing.T) {
	seen := map[int]int{}
	everySuffix(50, func(s subject, m model, x []api.Int) {
		f := made(t, s)
		i, norm := m.interval(x), m.norm(x)
		byTest, byExact := 0, 0
		for _, r := range bounds(norm) {
			answer := tested(i, r)
			seen[answer]++
			if k, e := f.Test(x, r); k != answer || e != api.OK {
				t.Errorf("Test(%v, %v): %d, error %d, instead of %d", x, value(r), k, e, answer)
			}
			if is, e := f.Decide(x, r); is != (norm.Cmp(value(r)) <= 0) || e != api.OK {
				t.Errorf("Decide(%v, %v): %v, error %d", x, value(r), is, e)
			}
			if answer == filter.Unsure {
				byExact++
			} else {
				byTest++
			}
			wantCounts(t, f, byTest, byExact)
		}
	})
	if seen[filter.Yes] < 1000 || seen[filter.No] < 1000 || seen[filter.Unsure] < 1000 {
		t.Errorf("too few of an answer: %v", seen)
	}
}

// TestTheEndsOfATest: where an end of the interval is just an end of the bound's, Yes is sure, and No is not.
func TestTheEndsOfATest(t *testing.T) {
	g, _ := gso.Of(rows(vec(3, 1), vec(1, 4)))
	f := made(t, subject{g: g})
	i, _ := f.Enclose(vec(2, -1))
	for _, c := range []struct {
		f      float64
		answer int
	}{
		{i.Hi, filter.Yes}, {ival.Up(i.Hi), filter.Yes}, {ival.Down(i.Hi), filter.Unsure},
		{i.Lo, filter.Unsure}, {ival.Up(i.Lo), filter.Unsure}, {ival.Down(i.Lo), filter.No},
	} {
		r, _ := ival.Exact(c.f)
		if k, e := f.Test(vec(2, -1), r); k != c.answer || e != api.OK {
			t.Errorf("Test by %x: %d, error %d, instead of %d", c.f, k, e, c.answer)
		}
	}
	// What lies between two floats has the upper one as its upper end, the lower one as its lower end.
	between := func(lo, hi float64) api.Rat {
		x, y := new(big.Rat).SetFloat64(lo), new(big.Rat).SetFloat64(hi)
		return terms(times(plus(x, y), big.NewRat(1, 2)))
	}
	for _, c := range []struct {
		r      api.Rat
		answer int
	}{
		{between(i.Hi, ival.Up(i.Hi)), filter.Yes}, {between(ival.Down(i.Hi), i.Hi), filter.Unsure},
		{between(ival.Down(i.Lo), i.Lo), filter.Unsure}, {between(ival.Down(ival.Down(i.Lo)), ival.Down(i.Lo)), filter.No},
	} {
		if k, e := f.Test(vec(2, -1), c.r); k != c.answer || e != api.OK {
			t.Errorf("Test by %v: %d, error %d, instead of %d", value(c.r), k, e, c.answer)
		}
	}
}

// TestTheEmptySuffix: its interval is just 0, and so floats are sure even by 0.
func TestTheEmptySuffix(t *testing.T) {
	for _, s := range subjects(55) {
		f := made(t, s)
		i, e := f.Enclose(nil)
		if !equal(i, api.Ival{}) || e != api.OK {
			t.Errorf("Enclose of none: %v, error %d", i, e)
		}
		for r, answer := range map[int64]int{-1: filter.No, 0: filter.Yes, 1: filter.Yes} {
			if k, e := f.Test([]api.Int{}, q(r, 5)); k != answer || e != api.OK {
				t.Errorf("Test of none by %d: %d, error %d", r, k, e)
			}
			if is, e := f.Decide(nil, q(r, 5)); is != (r >= 0) || e != api.OK {
				t.Errorf("Decide of none by %d: %v, error %d", r, is, e)
			}
		}
		wantCounts(t, f, 3, 0)
	}
}

// TestFloatsWithoutEnd: what is beyond all floats is decided by exact numbers, unless the bound is nearer.
func TestFloatsWithoutEnd(t *testing.T) {
	huge := power(2000)
	g := api.Gso{D: []api.Int{small(1), form(huge.Num())}, L: rows(nil)}
	f := made(t, subject{g: g})
	if i, _ := f.Enclose(vec(1)); !math.IsInf(i.Hi, 1) || math.IsInf(i.Lo, 0) {
		t.Errorf("Enclose: %v", i)
	}
	for _, c := range []struct {
		r  bigRat
		k  int
		is bool
	}{{huge, filter.Unsure, true}, {minus(huge, power(-9)), filter.Unsure, false}, {power(1030), filter.Unsure, false}, {power(900), filter.No, false}} {
		if k, _ := f.Test(vec(1), terms(c.r)); k != c.k {
			t.Errorf("Test: %d instead of %d", k, c.k)
		}
		if is, _ := f.Decide(vec(1), terms(c.r)); is != c.is {
			t.Errorf("Decide: %v", is)
		}
	}
	wantCounts(t, f, 1, 3)
}

func TestCountsAndReset(t *testing.T) {
	g, _ := gso.Of(rows(vec(1, 1), vec(0, 2)))
	f, other := made(t, subject{g: g}), made(t, subject{g: g})
	wantCounts(t, f, 0, 0)
	ask := func(r api.Rat) { f.Decide(vec(1), r) }
	ask(q(3, 1))
	ask(q(1, 1))
	ask(q(2, 1))
	wantCounts(t, f, 2, 1)
	// Neither is what others ask counted, nor what was refused.
	f.Test(vec(1), q(2, 1))
	f.Test(vec(1), q(3, 1))
	f.Enclose(vec(1))
	ask(q(1, 0))
	f.Decide(vec(1, 2, 3), q(1, 1))
	wantCounts(t, f, 2, 1)
	wantCounts(t, other, 0, 0)
	other.Decide(vec(1), q(2, 1))
	wantErr(t, "Reset", f.Reset(), api.OK)
	wantCounts(t, f, 0, 0)
	wantCounts(t, other, 0, 1)
	ask(q(2, 1))
	ask(q(2, 1))
	ask(q(4, 1))
	wantCounts(t, f, 1, 2)
	wantErr(t, "Reset", f.Reset(), api.OK)
	wantErr(t, "Reset", f.Reset(), api.OK)
	wantCounts(t, f, 0, 0)
}

// TestManyCounts: one count never runs over into the other.
func TestManyCounts(t *testing.T) {
	g, _ := gso.Of(rows(vec(1)))
	f := made(t, subject{g: g})
	const many = 70000
	for range many {
		f.Decide(vec(1), q(2, 1))
	}
	wantCounts(t, f, many, 0)
	for range many {
		f.Decide(vec(1), q(1, 1))
	}
	wantCounts(t, f, many, many)
}
