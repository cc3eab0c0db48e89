package ival

import (
	"math"

	"trammel/api"
	"trammel/zint"
)

const (
	leastExp = -1074 // every finite float is a whole multiple of 2 to this
	aboveExp = 1024  // and lies below 2 to this
)

// OfInt: from the greatest float that is not above n to the least that is not below.
func OfInt(n api.Int) api.Ival {
	m, e, exact := zint.Top(n)
	return about(zint.Sign(n) < 0, m, e, exact)
}

// OfRat: from the greatest float that is not above r to the least that is not below; ErrRat, if r may not be.
func OfRat(r api.Rat) (api.Ival, api.Errno) {
	if !mayBe(r) {
		return api.Ival{}, api.ErrRat
	}
	m, e, exact := top(r)
	return about(zint.Sign(r.Num) < 0, m, e, exact), api.OK
}

// mayBe tells if the denominator is above 0.
func mayBe(r api.Rat) bool {
	return zint.Sign(r.Den) > 0
}

// top is m and e, so that m times 2^e is the greatest float that is not above the magnitude of r, and if it is that magnitude; what is beyond all floats comes as something beyond them.
func top(r api.Rat) (uint64, int, bool) {
	// r lies between 2 to the one less and 2 to the one more.
	size := zint.Bits(r.Num) - zint.Bits(r.Den)
	if size > aboveExp {
		return 1, aboveExp, false
	}
	// Behind so many places the quotient is as long as a float at least, or goes as deep as floats do; and it never is much longer, so that the division is short.
	places := max(0, min(floatBits-size, -leastExp))
	num, _ := zint.Shift(zint.Abs(r.Num), places)
	q, rest, _ := zint.Floor(num, r.Den)
	m, e, exact := zint.Top(q)
	return m, e - places, exact && zint.Sign(rest) == 0
}

// about is the interval about a number whose magnitude is m times 2^e, if it is exact, else lies between that and the next float.
func about(neg bool, m uint64, e int, exact bool) api.Ival {
	low := math.Ldexp(float64(m), e)
	if math.IsInf(low, 1) {
		low, exact = math.MaxFloat64, false
	}
	from := place(low)
	to := from
	if !exact {
		to++
	}
	if neg {
		from, to = -to, -from
	}
	return api.Ival{Lo: standing(from), Hi: standing(to)}
}
