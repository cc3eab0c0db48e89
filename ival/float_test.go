package ival_test

import (
	"math"
	"math/big"
	"math/rand"
	"testing"

	"trammel/api"
	"trammel/ival"
)

// IV1.

func checkNext(t *testing.T, f float64) {
	t.Helper()
	wantFloat(t, "Down", ival.Down(f), below(f))
	wantFloat(t, "Up", ival.Up(f), above(f))
}

func TestNext(t *testing.T) {
	for _, f := range floats() {
		checkNext(t, f)
	}
	r := rand.New(rand.NewSource(2))
	for range 20000 {
		checkNext(t, draw(r))
	}
	// About the places where the bits go over from one exponent to the next.
	for e := -1075; e <= 1024; e++ {
		for _, f := range []float64{math.Ldexp(1, e), math.Ldexp(0x1.fffffffffffffp-1, e)} {
			checkNext(t, f)
			checkNext(t, -f)
		}
	}
}

// TestNextAtTheEnds writes out what the chapter says of noughts and infinities; a nought that is answered is +0.
func TestNextAtTheEnds(t *testing.T) {
	for _, c := range []struct{ f, down, up float64 }{
		{inf, most, inf}, {-inf, -inf, -most}, {most, below(most), inf}, {-most, -inf, -below(most)},
		{0, -least, least}, {minus0, -least, least}, {least, 0, 2 * least}, {-least, -2 * least, 0},
		{1, 0x1.fffffffffffffp-1, 0x1.0000000000001p0}, {plain, plain - least, plain + least},
	} {
		wantFloat(t, "Down", ival.Down(c.f), c.down)
		wantFloat(t, "Up", ival.Up(c.f), c.up)
	}
	for _, nan := range nans() {
		if f := ival.Down(nan); !math.IsNaN(f) {
			t.Errorf("Down of a NaN: %v", f)
		}
		if f := ival.Up(nan); !math.IsNaN(f) {
			t.Errorf("Up of a NaN: %v", f)
		}
	}
}

// TestNothingBetween: between a float and the next there is none; up and down again is where one was.
func TestNothingBetween(t *testing.T) {
	r := rand.New(rand.NewSource(3))
	for range 5000 {
		f := draw(r)
		if math.IsInf(f, 0) {
			continue
		}
		up := ival.Up(f)
		if up <= f || ival.Down(up) != f {
			t.Errorf("%x, above it %x, and down again %x", f, up, ival.Down(up))
		}
		if up < inf {
			middle := times(plus(number(f), number(up)), big.NewRat(1, 2))
			if m, exact := middle.Float64(); exact || m != f && m != up {
				t.Errorf("%x lies between %x and %x", m, f, up)
			}
		}
	}
}

func checkExact(t *testing.T, f float64) {
	t.Helper()
	r, ok := ival.Exact(f)
	if x := terms(number(f)); !ok || !alike(r.Num, x.Num) || !alike(r.Den, x.Den) {
		t.Errorf("Exact(%x): %v, %v instead of %v", f, r, ok, x)
	}
}

func TestExact(t *testing.T) {
	for _, f := range finite() {
		checkExact(t, f)
	}
	for e := -1075; e < 1024; e++ {
		checkExact(t, math.Ldexp(1, e))
		checkExact(t, math.Ldexp(-0x1.fffffffffffffp0, e))
	}
	r := rand.New(rand.NewSource(4))
	for range 3000 {
		if f := draw(r); !math.IsInf(f, 0) {
			checkExact(t, f)
		}
	}
}

// TestExactOfWhatIsNoNumber: 0 by 1 and false.
func TestExactOfWhatIsNoNumber(t *testing.T) {
	for _, f := range append(nans(), inf, -inf) {
		r, ok := ival.Exact(f)
		if x := q(0, 1); ok || !alike(r.Num, x.Num) || !alike(r.Den, x.Den) {
			t.Errorf("Exact(%v): %v, %v", f, r, ok)
		}
	}
}

// TestExactGoesBack: the interval of what a float is, is that float twice.
func TestExactGoesBack(t *testing.T) {
	for _, f := range finite() {
		r, _ := ival.Exact(f)
		a, e := ival.OfRat(r)
		want(t, "OfRat of Exact", a, e, span(f+0, f+0))
	}
	r := rand.New(rand.NewSource(5))
	for range 1000 {
		f := draw(r)
		if x, ok := ival.Exact(f); ok {
			a, e := ival.OfRat(api.Rat{Num: x.Num, Den: x.Den})
			want(t, "OfRat of Exact", a, e, span(f+0, f+0))
		}
	}
}
