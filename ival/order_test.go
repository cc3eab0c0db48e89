package ival_test

import (
	"math"
	"math/big"
	"math/rand"
	"testing"

	"trammel/api"
	"trammel/ival"
)

// IV4, and Valid.

func TestValid(t *testing.T) {
	for _, a := range spans() {
		wantErr(t, "Valid", ival.Valid(a), api.OK)
	}
	for _, a := range unfit() {
		wantErr(t, "Valid", ival.Valid(a), api.ErrIval)
	}
	for _, lo := range floats() {
		for _, hi := range floats() {
			if lo > hi {
				wantErr(t, "Valid", ival.Valid(span(lo, hi)), api.ErrIval)
			}
		}
	}
}

func checkCmp(t *testing.T, a, b api.Ival) {
	t.Helper()
	order, sure := 0, false
	switch {
	case a.Hi < b.Lo:
		order, sure = -1, true
	case a.Lo > b.Hi:
		order, sure = 1, true
	case a.Lo == a.Hi && b.Lo == b.Hi && a.Lo == b.Lo && math.Abs(a.Lo) < inf:
		sure = true
	}
	got, is, e := ival.Cmp(a, b)
	if got != order || is != sure || e != api.OK {
		t.Errorf("Cmp(%v, %v): %d, %v, %d", a, b, got, is, e)
	}
}

func TestCmp(t *testing.T) {
	for _, a := range some() {
		for _, b := range some() {
			checkCmp(t, a, b)
		}
	}
	r := rand.New(rand.NewSource(10))
	for range 50000 {
		checkCmp(t, drawSpan(r), drawSpan(r))
	}
}

func TestCmpWrittenOut(t *testing.T) {
	for _, c := range []struct {
		a, b  api.Ival
		order int
		sure  bool
	}{
		{span(1, 2), span(2, 3), 0, false},
		{span(2, 3), span(1, 2), 0, false},
		{span(1, 2), span(above(2), 3), -1, true},
		{span(above(2), 3), span(1, 2), 1, true},
		{span(1, 1), span(1, 1), 0, true},
		{span(1, 1), span(1, 2), 0, false},
		{span(1, 2), span(1, 1), 0, false},
		{span(1, 2), span(2, 2), 0, false},
		{span(1, 2), span(1, 2), 0, false},
		{span(0, 0), span(minus0, minus0), 0, true},
		{span(0, minus0), span(minus0, 0), 0, true},
		{span(minus0, minus0), span(least, least), -1, true},
		{span(inf, inf), span(inf, inf), 0, false},
		{span(-inf, -inf), span(-inf, -inf), 0, false},
		{span(-inf, -inf), span(inf, inf), -1, true},
		{span(inf, inf), span(1, most), 1, true},
		{span(-inf, inf), span(1, 1), 0, false},
	} {
		order, sure, e := ival.Cmp(c.a, c.b)
		if order != c.order || sure != c.sure || e != api.OK {
			t.Errorf("Cmp(%v, %v): %d, %v, %d", c.a, c.b, order, sure, e)
		}
	}
}

func checkHolds(t *testing.T, a api.Ival, x *big.Rat) {
	t.Helper()
	for _, r := range []api.Rat{terms(x), loose(x, 10)} {
		if is, e := ival.Holds(a, r); is != within(a, x) || e != api.OK {
			t.Errorf("Holds(%x to %x, %v): %v, %d", a.Lo, a.Hi, x, is, e)
		}
	}
}

func TestHolds(t *testing.T) {
	all := spans()
	for i, x := range numbers() {
		for j := i % 37; j < len(all); j += 37 {
			checkHolds(t, all[j], x)
		}
	}
}

// TestHoldsAtTheEnds: both ends are with it; what is just beside them is not.
func TestHoldsAtTheEnds(t *testing.T) {
	tiny := power(-1200)
	for _, a := range spans() {
		for _, f := range []float64{a.Lo, a.Hi} {
			if math.IsInf(f, 0) {
				continue
			}
			checkHolds(t, a, number(f))
			checkHolds(t, a, plus(number(f), tiny))
			checkHolds(t, a, minus(number(f), tiny))
		}
	}
}

// TestHoldsOfInfiniteEnds: -Inf is below, +Inf above all numbers, however great.
func TestHoldsOfInfiniteEnds(t *testing.T) {
	far := power(1 << 20)
	for _, x := range []*big.Rat{far, new(big.Rat).Neg(far), new(big.Rat), number(most), new(big.Rat).Inv(far)} {
		for _, c := range []struct {
			a  api.Ival
			is bool
		}{
			{span(-inf, inf), true}, {span(inf, inf), false}, {span(-inf, -inf), false},
			{span(0, inf), x.Sign() >= 0}, {span(-inf, 0), x.Sign() <= 0},
			{span(most, inf), x.Cmp(number(most)) >= 0}, {span(-inf, most), x.Cmp(number(most)) <= 0},
			{span(-most, most), x.Num().BitLen() <= 1024},
		} {
			if is, e := ival.Holds(c.a, terms(x)); is != c.is || e != api.OK {
				t.Errorf("Holds(%v, %d bits): %v, %d", c.a, x.Num().BitLen(), is, e)
			}
		}
	}
}
