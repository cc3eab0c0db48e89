// Package euclid goes on in Euclid's row of rests by many places at once: the highest bits of two long numbers tell many quotients, so that the numbers themselves are gone over once for all of those.
package euclid

import "math/bits"

const limbBits = 32

// Least is how many limbs the lower of two numbers must have for Look.
const Least = 3

// Steps is some places of the row of rests at once: of a, b comes the pair U0 a - V0 b and V1 b - U1 a, or both with the other sign, if it is an odd number of places. All four are below 2^32.
type Steps struct {
	U0, V0, U1, V1 uint64
	Odd            bool
}

// Look does with the highest 64 bits what Euclid does with all, as long as what is cut off can't change a quotient (Collins' condition); it tells false, if that is no place. The last quotient is not sure: what it tells is a place behind what it looks at, so it begins at a place ahead of the row. Both numbers have Least limbs or more, none of 0 at the end, and b is not above a.
func Look(a, b []uint32) (Steps, bool) {
	x, y := highest(a, b)
	s := Steps{U1: 1, Odd: true}
	u2, v2 := uint64(0), uint64(1)
	for y >= v2 && x-y >= s.V1+v2 {
		q := x / y
		x, y = y, x-q*y
		s.U0, s.U1, u2 = s.U1, u2, s.U1+q*u2
		s.V0, s.V1, v2 = s.V1, v2, s.V1+q*v2
		s.Odd = !s.Odd
	}
	return s, s.V0 != 0
}

// highest is the highest 64 bits of a, and those of b that stand at the same places.
func highest(a, b []uint32) (uint64, uint64) {
	n := len(a)
	shift := bits.LeadingZeros32(a[n-1])
	return window(a, n, shift), window(b, n, shift)
}

// window is the 64 bits below the highest shift ones of the limbs n - 3 to n - 1.
func window(a []uint32, n, shift int) uint64 {
	w := uint64(0)
	for i := range 2 {
		w = w<<limbBits | uint64(limb(a, n-1-i))
	}
	return w<<shift | uint64(limb(a, n-3))>>(limbBits-shift)
}

// limb: beyond its end a number has limbs of 0.
func limb(a []uint32, i int) uint32 {
	if i < len(a) {
		return a[i]
	}
	return 0
}

// Rests is the pair of rests that so many places behind a, b.
func (s Steps) Rests(a, b []uint32) ([]uint32, []uint32) {
	if s.Odd {
		return differ(b, s.V0, a, s.U0), differ(a, s.U1, b, s.V1)
	}
	return differ(a, s.U0, b, s.V0), differ(b, s.V1, a, s.U1)
}

// Shares is for the rests that Rests finds what x and y are for a and b: how often, but for the sign, one of the two numbers at the row's beginning is in them. Those of neighbours have unlike signs, so that nothing is taken away here.
func (s Steps) Shares(x, y []uint32) ([]uint32, []uint32) {
	return unite(x, s.U0, y, s.V0), unite(x, s.U1, y, s.V1)
}

// differ is a times p without b times q: not below 0, and of no more limbs than the longer of them; p and q are below 2^32.
func differ(a []uint32, p uint64, b []uint32, q uint64) []uint32 {
	out := make([]uint32, max(len(a), len(b)))
	plus, minus, borrow := uint64(0), uint64(0), uint64(0)
	for i := range len(out) {
		plus += uint64(limb(a, i)) * p
		minus += uint64(limb(b, i)) * q
		w := uint64(uint32(plus)) - uint64(uint32(minus)) - borrow
		out[i] = uint32(w)
		borrow = w >> 63
		plus >>= limbBits
		minus >>= limbBits
	}
	return trim(out)
}

// unite is a times p and b times q together; p and q are below 2^32, so that a limb and a bit more than the longer of a and b has are enough.
func unite(a []uint32, p uint64, b []uint32, q uint64) []uint32 {
	out := make([]uint32, max(len(a), len(b))+2)
	first, second, carry := uint64(0), uint64(0), uint64(0)
	for i := range len(out) {
		first += uint64(limb(a, i)) * p
		second += uint64(limb(b, i)) * q
		// Each of both may fill a word, their low halves together never do.
		carry += uint64(uint32(first)) + uint64(uint32(second))
		out[i] = uint32(carry)
		carry >>= limbBits
		first >>= limbBits
		second >>= limbBits
	}
	return trim(out)
}

func trim(a []uint32) []uint32 {
	n := len(a)
	for n > 0 && a[n-1] == 0 {
		n--
	}
	return a[:n]
}
