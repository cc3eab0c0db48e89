package zint

import (
	"trammel/api"
	"trammel/nat"
)

// Add: the sum.
func Add(a, b api.Int) api.Int {
	if a.Neg == b.Neg {
		return signed(a.Neg, nat.Add(a.Mag, b.Mag))
	}
	if mag, e := nat.Sub(a.Mag, b.Mag); e == api.OK {
		return signed(a.Neg, mag)
	}
	mag, _ := nat.Sub(b.Mag, a.Mag)
	return signed(b.Neg, mag)
}

// Sub: the difference.
func Sub(a, b api.Int) api.Int {
	return Add(a, api.Int{Neg: !b.Neg, Mag: b.Mag})
}

// Mul: the product.
func Mul(a, b api.Int) api.Int {
	return signed(a.Neg != b.Neg, nat.Mul(a.Mag, b.Mag))
}

// Sum: the sum of all, 0 of none.
func Sum(l []api.Int) api.Int {
	return total(l...)
}

// total keeps what comes with a minus apart: so each of both sums only grows, and can be added to in place.
func total(l ...api.Int) api.Int {
	plus, minus := []uint32{}, []uint32{}
	for _, a := range l {
		if a.Neg {
			minus = pile(minus, a.Mag)
		} else {
			plus = pile(plus, a.Mag)
		}
	}
	return Sub(api.Int{Mag: plus}, api.Int{Mag: minus})
}

// pile adds b to a in place, but for limbs that come behind.
func pile(a, b []uint32) []uint32 {
	a = append(a, make([]uint32, max(0, len(b)-len(a)))...)
	carry := uint64(0)
	for i := range len(b) {
		carry += uint64(a[i]) + uint64(b[i])
		a[i] = uint32(carry)
		carry >>= limbBits
	}
	for i := len(b); carry != 0; i++ {
		if i == len(a) {
			a = append(a, 0)
		}
		carry += uint64(a[i])
		a[i] = uint32(carry)
		carry >>= limbBits
	}
	return a
}
