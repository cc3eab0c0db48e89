package nat

import "trammel/api"

// Add: the sum.
func Add(a, b []uint32) []uint32 {
	a, b = trim(a), trim(b)
	if len(a) < len(b) {
		a, b = b, a
	}
	out := make([]uint32, len(a)+1)
	copy(out, a)
	addTo(out, b)
	return trim(out)
}

// addTo adds b to a in place and answers what goes beyond a's end; a is at least as long as b.
func addTo(a, b []uint32) uint32 {
	carry := uint64(0)
	for i := range len(b) {
		carry += uint64(a[i]) + uint64(b[i])
		a[i] = uint32(carry)
		carry >>= limbBits
	}
	for i := len(b); carry != 0 && i < len(a); i++ {
		carry += uint64(a[i])
		a[i] = uint32(carry)
		carry >>= limbBits
	}
	return uint32(carry)
}

// Sub: the difference; ErrBelow, if b is above a.
func Sub(a, b []uint32) ([]uint32, api.Errno) {
	if Cmp(a, b) < 0 {
		return nil, api.ErrBelow
	}
	out := Norm(a)
	subFrom(out, trim(b))
	return trim(out), api.OK
}

// subFrom takes b from a in place; b is not above a.
func subFrom(a, b []uint32) {
	borrow := uint64(0)
	for i := range len(b) {
		d := uint64(a[i]) - uint64(b[i]) - borrow
		a[i] = uint32(d)
		borrow = d >> 63
	}
	for i := len(b); borrow != 0 && i < len(a); i++ {
		d := uint64(a[i]) - borrow
		a[i] = uint32(d)
		borrow = d >> 63
	}
}

// Mul: the product.
func Mul(a, b []uint32) []uint32 {
	a, b = trim(a), trim(b)
	if len(a) == 0 || len(b) == 0 {
		return nil
	}
	out := make([]uint32, len(a)+len(b))
	for i := range len(a) {
		row := out[i : i+len(b)]
		out[i+len(b)] = addTimes(row, b, a[i])
	}
	return trim(out)
}

// addTimes adds b times m to a in place and answers the limb beyond a's end; both are of one length.
func addTimes(a, b []uint32, m uint32) uint32 {
	carry := uint64(0)
	for i := range len(b) {
		carry += uint64(a[i]) + uint64(b[i])*uint64(m)
		a[i] = uint32(carry)
		carry >>= limbBits
	}
	return uint32(carry)
}
