package ival

import (
	"math"

	"trammel/api"
	"trammel/rat"
	"trammel/zint"
)

// Down: the greatest float below f; of -Inf and of a NaN itself.
func Down(f float64) float64 {
	switch {
	case math.IsNaN(f):
		return math.NaN()
	case math.IsInf(f, -1):
		return f
	}
	return standing(place(f) - 1)
}

// Up: the least float above f; of +Inf and of a NaN itself.
func Up(f float64) float64 {
	switch {
	case math.IsNaN(f):
		return math.NaN()
	case math.IsInf(f, 1):
		return f
	}
	return standing(place(f) + 1)
}

// place is where f stands in the row of all floats, counted from nought, with a minus below it: the bits of floats above nought, taken as whole numbers, rise by 1 from each to the next, up to +Inf. Both noughts stand at one place.
func place(f float64) int64 {
	n := int64(math.Float64bits(math.Abs(f)))
	if math.Signbit(f) {
		return -n
	}
	return n
}

// standing is the float at a place; at that of the noughts it is +0.
func standing(place int64) float64 {
	if place < 0 {
		return -math.Float64frombits(uint64(-place))
	}
	return math.Float64frombits(uint64(place))
}

// floatBits is as many bits as a float has.
const floatBits = 53

// Exact: the rational that f is, and true; 0 by 1 and false, if it is none.
func Exact(f float64) (api.Rat, bool) {
	if math.IsNaN(f) || math.IsInf(f, 0) {
		return rat.Of(zint.Of(0)), false
	}
	part, e := math.Frexp(f)
	// With all the bits of a float ahead of the point nothing is left behind it.
	num := zint.Of(int64(math.Ldexp(part, floatBits)))
	den := zint.Of(1)
	if e < floatBits {
		den, _ = zint.Shift(den, floatBits-e)
	} else {
		num, _ = zint.Shift(num, e-floatBits)
	}
	r, _ := rat.Make(num, den)
	return r, true
}
