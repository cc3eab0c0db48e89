package filter_test

import (
	"math/big"
	"testing"

	"trammel/api"
	"trammel/filter"
	"trammel/gso"
	"trammel/ival"
)

// The examples of the chapter.

func wantRange(t *testing.T, g api.Gso, target []api.Rat, x []api.Int, r api.Rat, least, most int64, some bool) {
	t.Helper()
	a, b, is, e := filter.Range(g, target, x, r)
	if !alike(a, small(least)) || !alike(b, small(most)) || is != some || e != api.OK {
		t.Errorf("Range: %v to %v, %v, error %d, instead of %d to %d, %v", whole(a), whole(b), is, e, least, most, some)
	}
}

func TestExamplesOfExactNumbers(t *testing.T) {
	g, _ := gso.Of(rows(vec(1, 1), vec(0, 2)))
	n, e := filter.Norm(g, nil, vec(1))
	want(t, "Norm", n, e, big.NewRat(2, 1))
	n, e = filter.Norm(g, nil, vec(1, -1))
	want(t, "Norm", n, e, big.NewRat(2, 1))
	n, e = filter.Norm(g, nil, nil)
	want(t, "Norm of none", n, e, new(big.Rat))
	c, e := filter.Centre(g, nil, vec(1))
	want(t, "Centre", c, e, big.NewRat(-1, 1))
	wantRange(t, g, nil, vec(1), q(4, 1), -2, 0, true)
	wantRange(t, g, nil, vec(1), q(1, 1), 0, 0, false)
}

func TestExamplesOfFloats(t *testing.T) {
	g, _ := gso.Of(rows(vec(1, 1), vec(0, 2)))
	f, e := filter.New(g, nil)
	wantErr(t, "New", e, api.OK)
	for _, c := range []struct {
		r      int64
		answer int
	}{{2, filter.Unsure}, {3, filter.Yes}, {1, filter.No}} {
		if k, e := f.Test(vec(1), q(c.r, 1)); k != c.answer || e != api.OK {
			t.Errorf("Test by %d: %d, error %d", c.r, k, e)
		}
	}
	if filter.Yes != 1 || filter.No != 2 || filter.Unsure != 3 {
		t.Errorf("the answers are not 1, 2, 3")
	}
	if is, e := f.Decide(vec(1), q(2, 1)); !is || e != api.OK {
		t.Errorf("Decide: %v, error %d", is, e)
	}
	wantCounts(t, f, 0, 1)
}

// TestTheIntervalOfTwoWrittenOut: 1 squared, times 2, and that to 0, each a float further outward.
func TestTheIntervalOfTwoWrittenOut(t *testing.T) {
	g, _ := gso.Of(rows(vec(1, 1), vec(0, 2)))
	f, _ := filter.New(g, nil)
	i, e := f.Enclose(vec(1))
	wantErr(t, "Enclose", e, api.OK)
	lo := ival.Down(0 + ival.Down(2*ival.Down(1)))
	hi := ival.Up(0 + ival.Up(2*ival.Up(1)))
	if i.Lo != lo || i.Hi != hi {
		t.Errorf("Enclose: %x to %x instead of %x to %x", i.Lo, i.Hi, lo, hi)
	}
}

func wantCounts(t *testing.T, f *filter.Filter, byTest, byExact int) {
	t.Helper()
	if a, b := f.Counts(); a != byTest || b != byExact {
		t.Errorf("Counts: %d, %d instead of %d, %d", a, b, byTest, byExact)
	}
}
