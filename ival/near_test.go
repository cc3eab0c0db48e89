package ival_test

import (
	"math"
	"math/big"
	"math/rand"
	"testing"

	"trammel/api"
	"trammel/ival"
)

// IV2.

// checkNear holds an interval against its definition: Lo is not above x, and the next float is; Hi is not below x, and the one ahead of it is.
func checkNear(t *testing.T, what string, a api.Ival, x *big.Rat) {
	t.Helper()
	beneath := func(f float64) bool { return f == -inf || f != inf && number(f).Cmp(x) <= 0 }
	over := func(f float64) bool { return f == inf || f != -inf && number(f).Cmp(x) >= 0 }
	if !beneath(a.Lo) || beneath(above(a.Lo)) || !over(a.Hi) || over(below(a.Hi)) {
		t.Errorf("%s of %v bits by %v: %x to %x", what, x.Num().BitLen(), x.Denom().BitLen(), a.Lo, a.Hi)
	}
	for _, f := range []float64{a.Lo, a.Hi} {
		if f == 0 && math.Signbit(f) {
			t.Errorf("%s: a nought with a minus", what)
		}
	}
}

func checkRat(t *testing.T, x *big.Rat) {
	t.Helper()
	for _, r := range []api.Rat{terms(x), loose(x, 6), loose(x, 1<<40)} {
		a, e := ival.OfRat(r)
		wantErr(t, "OfRat", e, api.OK)
		checkNear(t, "OfRat", a, x)
	}
	if x.IsInt() {
		checkInt(t, x.Num())
	}
}

func checkInt(t *testing.T, n *big.Int) {
	t.Helper()
	a := ival.OfInt(form(n))
	checkNear(t, "OfInt", a, new(big.Rat).SetInt(n))
	b, e := ival.OfRat(api.Rat{Num: form(n), Den: small(1)})
	want(t, "OfRat of a whole number", b, e, a)
}

func TestNear(t *testing.T) {
	for _, x := range numbers() {
		checkRat(t, x)
	}
	for n := int64(-40); n <= 40; n++ {
		for d := int64(1); d <= 20; d++ {
			checkRat(t, big.NewRat(n, d))
		}
	}
}

// TestNearOfWholeNumbers: about all places where a float has one bit too few.
func TestNearOfWholeNumbers(t *testing.T) {
	for bits := range 1100 {
		if bits > 70 && bits < 1010 && bits%32 > 1 {
			continue
		}
		for _, m := range []int64{1, 1<<53 - 1, 1<<53 + 1, 1<<54 - 1, 1<<54 - 2} {
			n := new(big.Int).Lsh(big.NewInt(m), uint(bits))
			for _, more := range []int64{-1, 0, 1} {
				k := new(big.Int).Add(n, big.NewInt(more))
				checkInt(t, k)
				checkInt(t, k.Neg(k))
			}
		}
	}
}

// TestNearOfQuotients: quotients of all sizes whose bits are drawn, and such as are just beside a float.
func TestNearOfQuotients(t *testing.T) {
	r := rand.New(rand.NewSource(6))
	bits := func(n int) *big.Int {
		out := new(big.Int).Rand(r, new(big.Int).Lsh(big.NewInt(1), uint(n)))
		return out.Add(out, big.NewInt(1))
	}
	for range 3000 {
		x := new(big.Rat).SetFrac(bits(1+r.Intn(300)), bits(1+r.Intn(300)))
		checkRat(t, times(x, power(r.Intn(2600)-1300)))
		f := math.Abs(draw(r))
		if math.IsInf(f, 0) {
			continue
		}
		beside := new(big.Rat).SetFrac(big.NewInt(int64(r.Intn(3)-1)), bits(1200))
		checkRat(t, plus(number(f), times(beside, power(-1100*r.Intn(2)))))
	}
}

// TestNearAtTheSmallEnd: every quarter about the least floats, and about the least that has all its bits.
func TestNearAtTheSmallEnd(t *testing.T) {
	quarter := power(-1076)
	for n := int64(-40); n <= 40; n++ {
		x := times(big.NewRat(n, 1), quarter)
		checkRat(t, x)
		checkRat(t, plus(x, times(quarter, big.NewRat(1, 3))))
		for _, f := range []float64{plain, 2 * plain, 4 * plain} {
			checkRat(t, plus(number(f), x))
			checkRat(t, minus(x, number(f)))
		}
	}
}

// TestNearBeyondAllFloats writes out what is infinite.
func TestNearBeyondAllFloats(t *testing.T) {
	for _, n := range []int{1024, 1025, 3000, 70000, 1 << 21} {
		far := power(n).Num()
		want(t, "OfInt", ival.OfInt(form(far)), api.OK, span(most, inf))
		want(t, "OfInt", ival.OfInt(form(new(big.Int).Neg(far))), api.OK, span(-inf, -most))
		a, e := ival.OfRat(api.Rat{Num: form(far), Den: small(3)})
		if n > 1025 {
			want(t, "OfRat", a, e, span(most, inf))
		}
		a, e = ival.OfRat(api.Rat{Num: small(-1), Den: form(new(big.Int).Lsh(far, 100))})
		want(t, "OfRat", a, e, span(-least, 0))
		a, e = ival.OfRat(api.Rat{Num: small(1), Den: form(new(big.Int).Lsh(far, 100))})
		want(t, "OfRat", a, e, span(0, least))
	}
	want(t, "OfInt", ival.OfInt(form(number(most).Num())), api.OK, span(most, most))
	next := new(big.Int).Add(number(most).Num(), big.NewInt(1))
	want(t, "OfInt", ival.OfInt(form(next)), api.OK, span(most, inf))
}

// TestNearOfLongNumbers: a quotient of two that are much longer than a float goes far.
func TestNearOfLongNumbers(t *testing.T) {
	r := rand.New(rand.NewSource(7))
	long := func(n int) *big.Int {
		out := power(n).Num()
		return out.Add(out, new(big.Int).Rand(r, power(n).Num()))
	}
	for _, more := range []int{-1080, -1030, -3, 0, 3, 60, 1020} {
		x := new(big.Rat).SetFrac(long(1<<17+more), long(1<<17))
		a, e := ival.OfRat(terms(x))
		wantErr(t, "OfRat", e, api.OK)
		checkNear(t, "OfRat", a, x)
	}
	huge := api.Rat{Num: form(long(1 << 21)), Den: form(long(1 << 20))}
	a, e := ival.OfRat(huge)
	want(t, "OfRat", a, e, span(most, inf))
	huge.Num, huge.Den = huge.Den, huge.Num
	a, e = ival.OfRat(huge)
	want(t, "OfRat", a, e, span(0, least))
}

func TestNoughtIsPlusNought(t *testing.T) {
	for _, n := range noughts() {
		want(t, "OfInt(0)", ival.OfInt(n), api.OK, span(0, 0))
		for _, d := range []api.Int{small(1), num(false, 6, 0), num(false, 0, 1)} {
			a, e := ival.OfRat(api.Rat{Num: n, Den: d})
			want(t, "OfRat(0)", a, e, span(0, 0))
		}
	}
}
