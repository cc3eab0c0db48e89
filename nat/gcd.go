package nat

import "math/bits"

// Gcd: the greatest number that divides both; of 0 and 0 it is 0.
func Gcd(a, b []uint32) []uint32 {
	a, b = trim(a), trim(b)
	if Cmp(a, b) < 0 {
		a, b = b, a
	}
	for len(b) > 2 {
		a, b = lower(a, b)
	}
	if len(b) == 0 {
		return Norm(a)
	}
	_, r, _ := Div(a, b)
	return ofWord(gcdWords(word(b), word(r)))
}

func gcdWords(a, b uint64) uint64 {
	for b != 0 {
		a, b = b, a%b
	}
	return a
}

// lower goes on in the row of rests that begins with a, b, by many places if their highest bits tell that many quotients, else by one; b has three limbs or more, and is not above a.
func lower(a, b []uint32) ([]uint32, []uint32) {
	s := look(a, b)
	if s.v0 == 0 {
		_, r, _ := Div(a, b)
		return b, r
	}
	if s.odd {
		return differ(b, s.v0, a, s.u0), differ(a, s.u1, b, s.v1)
	}
	return differ(a, s.u0, b, s.v0), differ(b, s.v1, a, s.u1)
}

// steps is some places of the row of rests at once: the new pair is u0 a - v0 b and v1 b - u1 a, or both with the other sign, if it is an odd number of places. All four are below 2^32; v0 is 0, if it is no place.
type steps struct {
	u0, v0, u1, v1 uint64
	odd            bool
}

// look does with the highest 64 bits what Euclid does with all, as long as what is cut off can't change a quotient (Collins' condition). The last quotient is not sure: what it tells is a place behind what it looks at, so it begins at a place ahead of the row.
func look(a, b []uint32) steps {
	x, y := highest(a, b)
	s := steps{u1: 1, odd: true}
	u2, v2 := uint64(0), uint64(1)
	for y >= v2 && x-y >= s.v1+v2 {
		q := x / y
		x, y = y, x-q*y
		s.u0, s.u1, u2 = s.u1, u2, s.u1+q*u2
		s.v0, s.v1, v2 = s.v1, v2, s.v1+q*v2
		s.odd = !s.odd
	}
	return s
}

// highest is the highest 64 bits of a, and those of b that stand at the same places; a has three limbs or more, and b is not above it.
func highest(a, b []uint32) (uint64, uint64) {
	n := len(a)
	shift := bits.LeadingZeros32(a[n-1])
	return window(a, n, shift), window(b, n, shift)
}

// window is the 64 bits below the highest shift ones of the limbs n - 3 to n - 1; limbs beyond the end of a are 0.
func window(a []uint32, n, shift int) uint64 {
	w := uint64(0)
	for i := range 2 {
		w = w<<limbBits | uint64(limb(a, n-1-i))
	}
	return w<<shift | uint64(limb(a, n-3))>>(limbBits-shift)
}

func limb(a []uint32, i int) uint32 {
	if i < len(a) {
		return a[i]
	}
	return 0
}

// differ is a times p without b times q: not below 0, and of no more limbs than the longer of them; p and q are below 2^32.
func differ(a []uint32, p uint64, b []uint32, q uint64) []uint32 {
	out := make([]uint32, max(len(a), len(b)))
	plus, minus, borrow := uint64(0), uint64(0), uint64(0)
	for i := range len(out) {
		plus += uint64(limb(a, i)) * p
		minus += uint64(limb(b, i)) * q
		w := uint64(uint32(plus)) - uint64(uint32(minus)) - borrow
		out[i] = uint32(w)
		borrow = w >> 63
		plus >>= limbBits
		minus >>= limbBits
	}
	return trim(out)
}
