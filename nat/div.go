package nat

import (
	"math/bits"

	"trammel/api"
)

// Div: the quotient, rounded down, and the rest; ErrDiv, if b is 0.
func Div(a, b []uint32) ([]uint32, []uint32, api.Errno) {
	a, b = trim(a), trim(b)
	switch {
	case len(b) == 0:
		return nil, nil, api.ErrDiv
	case len(a) < len(b):
		return nil, Norm(a), api.OK
	case len(a) <= 2:
		x, y := word(a), word(b)
		return ofWord(x / y), ofWord(x % y), api.OK
	case len(b) == 1:
		q := Norm(a)
		r := divSmall(q, b[0])
		return trim(q), ofWord(uint64(r)), api.OK
	}
	q, r := divLong(a, b)
	return q, r, api.OK
}

// divSmall divides a by d in place and answers the rest; d is not 0.
func divSmall(a []uint32, d uint32) uint32 {
	rest := uint64(0)
	for i := range len(a) {
		j := len(a) - 1 - i
		rest = rest<<limbBits | uint64(a[j])
		a[j] = uint32(rest / uint64(d))
		rest %= uint64(d)
	}
	return uint32(rest)
}

// divLong divides as one does by hand, limb by limb; b has two limbs or more, a as many as b or more. Both are shifted till the divisor's top bit is 1: only then its two highest limbs tell a digit all but surely.
func divLong(a, b []uint32) ([]uint32, []uint32) {
	n := len(b)
	shift := bits.LeadingZeros32(b[n-1])
	v := up(b, shift)
	u := make([]uint32, len(a)+1)
	copy(u, up(a, shift))
	q := make([]uint32, len(a)-n+1)
	for i := range len(q) {
		j := len(q) - 1 - i
		q[j] = digit(u[j:j+n+1], v)
	}
	return trim(q), down(trim(u), shift)
}

// digit finds how often v goes into u, and takes it off in place; u has a limb more than v, and is below v times 2^32.
func digit(u, v []uint32) uint32 {
	d := guess(u, v)
	if takeTimes(u, v, d) {
		d--
		// What goes beyond the end here is what was borrowed there.
		addTo(u, v)
	}
	return d
}

// guess tells the digit by three limbs of u and two of v: the right one, or one more.
func guess(u, v []uint32) uint32 {
	n := len(v)
	top := uint64(u[n])<<limbBits | uint64(u[n-1])
	first, second := uint64(v[n-1]), uint64(v[n-2])
	d, rest := top/first, top%first
	for d>>limbBits != 0 || d*second > rest<<limbBits|uint64(u[n-2]) {
		d--
		rest += first
		// A rest of more than a limb leaves nothing to be wrong.
		if rest>>limbBits != 0 {
			break
		}
	}
	return uint32(d)
}

// takeTimes takes v times d from u in place, round the end of u, and tells if it was too much; u has a limb more than v.
func takeTimes(u, v []uint32, d uint32) bool {
	carry, borrow := uint64(0), uint64(0)
	for i := range len(v) {
		carry += uint64(v[i]) * uint64(d)
		w := uint64(u[i]) - uint64(uint32(carry)) - borrow
		u[i] = uint32(w)
		borrow = w >> 63
		carry >>= limbBits
	}
	w := uint64(u[len(v)]) - carry - borrow
	u[len(v)] = uint32(w)
	return w>>63 != 0
}
