package nat

import "trammel/api"

// Shl: a times 2^n; ErrArg, if n is below 0; ErrLong, if the answer has more bits than MaxShift.
func Shl(a []uint32, n int) ([]uint32, api.Errno) {
	if n < 0 {
		return nil, api.ErrArg
	}
	a = trim(a)
	if len(a) == 0 {
		return nil, api.OK
	}
	// The difference can't go beyond an int, as the sum could.
	if n > api.MaxShift-Bits(a) {
		return nil, api.ErrLong
	}
	return up(a, n), api.OK
}

// up is Shl without its limit.
func up(a []uint32, n int) []uint32 {
	skip, shift := n/limbBits, n%limbBits
	out := make([]uint32, len(a)+skip+1)
	for i := range len(a) {
		w := uint64(a[i]) << shift
		out[skip+i] |= uint32(w)
		out[skip+i+1] = uint32(w >> limbBits)
	}
	return trim(out)
}

// Shr: a by 2^n, rounded down; ErrArg, if n is below 0.
func Shr(a []uint32, n int) ([]uint32, api.Errno) {
	if n < 0 {
		return nil, api.ErrArg
	}
	return down(trim(a), n), api.OK
}

// down is Shr of a number without noughts at its end, and of an n that is not below 0.
func down(a []uint32, n int) []uint32 {
	skip, shift := n/limbBits, n%limbBits
	if skip >= len(a) {
		return nil
	}
	out := make([]uint32, len(a)-skip)
	above := uint64(0)
	for i := range len(out) {
		j := len(out) - 1 - i
		above = above<<limbBits | uint64(a[skip+j])
		out[j] = uint32(above >> shift)
	}
	return trim(out)
}
