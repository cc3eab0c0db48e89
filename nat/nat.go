// Package nat is layer 1: natural numbers of any size, as limbs of 32 bits, the lowest first (see shared/doc/01-nat.md).
package nat

import "math/bits"

const limbBits = 32

// trim shares the memory of its argument: what a call answers is made of its own.
func trim(a []uint32) []uint32 {
	n := len(a)
	for n > 0 && a[n-1] == 0 {
		n--
	}
	return a[:n]
}

// Norm: the number without noughts at its end.
func Norm(a []uint32) []uint32 {
	a = trim(a)
	out := make([]uint32, len(a))
	copy(out, a)
	return out
}

// Cmp: -1, 0 or 1, as a is below, the same as, above b.
func Cmp(a, b []uint32) int {
	a, b = trim(a), trim(b)
	if len(a) != len(b) {
		return order(len(a) < len(b))
	}
	for i := range len(a) {
		// The highest limb in which they differ decides.
		if j := len(a) - 1 - i; a[j] != b[j] {
			return order(a[j] < b[j])
		}
	}
	return 0
}

func order(below bool) int {
	if below {
		return -1
	}
	return 1
}

// Bits: the least n with a below 2^n.
func Bits(a []uint32) int {
	a = trim(a)
	if len(a) == 0 {
		return 0
	}
	return (len(a)-1)*limbBits + bits.Len32(a[len(a)-1])
}

// word is the number of at most two limbs.
func word(a []uint32) uint64 {
	w := uint64(0)
	for i := range len(a) {
		w |= uint64(a[i]) << (limbBits * i)
	}
	return w
}

func ofWord(w uint64) []uint32 {
	return trim([]uint32{uint32(w), uint32(w >> limbBits)})
}
