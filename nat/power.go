package nat

import (
	"math/bits"

	"trammel/api"
)

// Root: the greatest number whose square is not above a. Each step of Newton's doubles how many of the root's bits are known, so that only as many of a's are looked at: the number found is the root of those, or one more.
func Root(a []uint32) []uint32 {
	a = trim(a)
	if len(a) == 0 {
		return nil
	}
	half := (Bits(a) - 1) / 2
	root, known := []uint32{1}, 0
	for i := range bits.Len(uint(half)) {
		before := known
		known = half >> (bits.Len(uint(half)) - 1 - i)
		q, _, _ := Div(down(a, 2*half-before-known+1), root)
		root = Add(up(root, known-before-1), q)
	}
	if Cmp(Mul(root, root), a) > 0 {
		subFrom(root, []uint32{1})
	}
	return trim(root)
}

// Pow: a to the n-th; ErrArg, if n is below 0; ErrLong, if a is above 1, and its bits times n are above MaxShift.
func Pow(a []uint32, n int) ([]uint32, api.Errno) {
	if n < 0 {
		return nil, api.ErrArg
	}
	a = trim(a)
	if n == 0 {
		return []uint32{1}, api.OK
	}
	size := Bits(a)
	if size <= 1 {
		return Norm(a), api.OK
	}
	// The quotient can't go beyond an int, as the product could.
	if n > api.MaxShift/size {
		return nil, api.ErrLong
	}
	return power(a, n), api.OK
}

// power goes through the bits of n from the highest one, which is a itself.
func power(a []uint32, n int) []uint32 {
	out := Norm(a)
	last := bits.Len(uint(n)) - 1
	for i := range last {
		out = Mul(out, out)
		if n>>(last-1-i)&1 == 1 {
			out = Mul(out, a)
		}
	}
	return out
}
