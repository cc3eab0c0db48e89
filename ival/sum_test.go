package ival_test

import (
	"math"
	"math/rand"
	"testing"

	"trammel/api"
	"trammel/ival"
)

// IV3, word by word.

// ends is Down of lo and Up of hi; of a NaN what the chapter says.
func ends(lo, hi float64) api.Ival {
	out := span(below(lo), above(hi))
	if math.IsNaN(lo) {
		out.Lo = -inf
	}
	if math.IsNaN(hi) {
		out.Hi = inf
	}
	return out
}

// product counts 0 times an infinity as 0.
func product(x, y float64) float64 {
	if p := x * y; !math.IsNaN(p) {
		return p
	}
	return 0
}

func productOf(a, b api.Ival) api.Ival {
	first := product(a.Lo, b.Lo)
	lo, hi := first, first
	for _, x := range []float64{a.Lo, a.Hi} {
		for _, y := range []float64{b.Lo, b.Hi} {
			if p := product(x, y); p < lo {
				lo = p
			} else if p > hi {
				hi = p
			}
		}
	}
	return ends(lo, hi)
}

func squareOf(a api.Ival) api.Ival {
	l, h := a.Lo*a.Lo, a.Hi*a.Hi
	if h < l {
		l, h = h, l
	}
	out := ends(l, h)
	if a.Lo <= 0 && a.Hi >= 0 || out.Lo < 0 {
		out.Lo = 0
	}
	return out
}

func checkSums(t *testing.T, a, b api.Ival) {
	t.Helper()
	out, e := ival.Add(a, b)
	want(t, "Add", out, e, ends(a.Lo+b.Lo, a.Hi+b.Hi))
	out, e = ival.Sub(a, b)
	want(t, "Sub", out, e, ends(a.Lo-b.Hi, a.Hi-b.Lo))
	out, e = ival.Mul(a, b)
	want(t, "Mul", out, e, productOf(a, b))
}

func TestSums(t *testing.T) {
	for _, a := range some() {
		for _, b := range some() {
			checkSums(t, a, b)
		}
	}
	r := rand.New(rand.NewSource(8))
	for range 50000 {
		checkSums(t, drawSpan(r), drawSpan(r))
	}
}

func TestSquares(t *testing.T) {
	r := rand.New(rand.NewSource(9))
	all := spans()
	for range 20000 {
		all = append(all, drawSpan(r))
	}
	for _, a := range all {
		out, e := ival.Sqr(a)
		want(t, "Sqr", out, e, squareOf(a))
	}
}

// TestSumsWrittenOut: what is infinite, and what comes near nought.
func TestSumsWrittenOut(t *testing.T) {
	for _, c := range []struct {
		name string
		call func(a, b api.Ival) (api.Ival, api.Errno)
		a, b api.Ival
		out  api.Ival
	}{
		{"Add", ival.Add, span(-inf, 1), span(inf, inf), span(-inf, inf)},
		{"Add", ival.Add, span(-inf, -inf), span(1, inf), span(-inf, inf)},
		{"Add", ival.Add, span(inf, inf), span(-inf, -inf), span(-inf, inf)},
		{"Add", ival.Add, span(most, most), span(most, most), span(most, inf)},
		{"Add", ival.Add, span(-most, -most), span(-most, -most), span(-inf, -most)},
		{"Add", ival.Add, span(-inf, -inf), span(1, 2), span(-inf, -most)},
		{"Add", ival.Add, span(inf, inf), span(1, 2), span(most, inf)},
		{"Add", ival.Add, span(-1, 1), span(1, 1), span(-least, above(2))},
		{"Add", ival.Add, span(minus0, minus0), span(minus0, minus0), span(-least, least)},
		{"Add", ival.Add, span(least, least), span(0, 0), span(0, 2*least)},
		{"Add", ival.Add, span(-least, -least), span(0, 0), span(-2*least, 0)},
		{"Sub", ival.Sub, span(1, 2), span(1, 2), span(below(-1), above(1))},
		{"Sub", ival.Sub, span(inf, inf), span(0, inf), span(-inf, inf)},
		{"Sub", ival.Sub, span(-inf, -inf), span(-inf, 0), span(-inf, inf)},
		{"Sub", ival.Sub, span(0, inf), span(0, inf), span(-inf, inf)},
		{"Sub", ival.Sub, span(0, 0), span(least, least), span(-2*least, 0)},
		{"Mul", ival.Mul, span(0, 0), span(-inf, inf), span(-least, least)},
		{"Mul", ival.Mul, span(-inf, inf), span(minus0, 0), span(-least, least)},
		{"Mul", ival.Mul, span(0, inf), span(0, inf), span(-least, inf)},
		{"Mul", ival.Mul, span(-inf, 0), span(0, inf), span(-inf, least)},
		{"Mul", ival.Mul, span(-2, 3), span(-5, 7), span(below(-15), above(21))},
		{"Mul", ival.Mul, span(-3, 2), span(-7, 5), span(below(-15), above(21))},
		{"Mul", ival.Mul, span(2, 3), span(5, 7), span(below(10), above(21))},
		{"Mul", ival.Mul, span(-3, -2), span(5, 7), span(below(-21), above(-10))},
		{"Mul", ival.Mul, span(least, least), span(0.5, 0.5), span(-least, least)},
		{"Mul", ival.Mul, span(least, least), span(1, 1), span(0, 2*least)},
		{"Mul", ival.Mul, span(-least, -least), span(1, 1), span(-2*least, 0)},
		{"Mul", ival.Mul, span(most, most), span(2, 2), span(most, inf)},
		{"Mul", ival.Mul, span(most, most), span(-2, -2), span(-inf, -most)},
	} {
		out, e := c.call(c.a, c.b)
		want(t, c.name, out, e, c.out)
	}
}

func TestSquaresWrittenOut(t *testing.T) {
	for _, c := range []struct{ a, out api.Ival }{
		{span(-1, 2), span(0, above(4))},
		{span(-3, 2), span(0, above(9))},
		{span(2, 3), span(below(4), above(9))},
		{span(-3, -2), span(below(4), above(9))},
		{span(0, 0), span(0, least)},
		{span(minus0, minus0), span(0, least)},
		{span(0, 2), span(0, above(4))},
		{span(-2, minus0), span(0, above(4))},
		{span(least, least), span(0, least)},
		{span(-least, -least), span(0, least)},
		{span(0x1p-537, 0x1p-537), span(0, 2*least)},
		{span(most, most), span(most, inf)},
		{span(-inf, -1), span(below(1), inf)},
		{span(-inf, inf), span(0, inf)},
		{span(inf, inf), span(most, inf)},
		{span(-inf, -inf), span(most, inf)},
	} {
		out, e := ival.Sqr(c.a)
		want(t, "Sqr", out, e, c.out)
	}
}
