package zint

import (
	"math/bits"

	"trammel/api"
	"trammel/nat"
)

// Power: a to the n; ErrArg, if n is below 0; ErrLong, if the bits of a times n are above MaxPower.
func Power(a api.Int, n int) (api.Int, api.Errno) {
	if n < 0 {
		return api.Int{}, api.ErrArg
	}
	// The quotient can't go beyond an int, as the product could.
	if size := Bits(a); size > 0 && n > api.MaxPower/size {
		return api.Int{}, api.ErrLong
	}
	mag, e := nat.Pow(a.Mag, n)
	return signed(a.Neg && n%2 == 1, mag), e
}

// Shift: the floor of a times 2 to the n; ErrLong, if n is above MaxPower or below -MaxPower.
func Shift(a api.Int, n int) (api.Int, api.Errno) {
	switch {
	case n > api.MaxPower || n < -api.MaxPower:
		return api.Int{}, api.ErrLong
	case n >= 0:
		return signed(a.Neg, up(a.Mag, n)), api.OK
	case Sign(a) < 0:
		return signed(true, downAbove(a.Mag, -n)), api.OK
	}
	mag, e := nat.Shr(a.Mag, -n)
	return signed(false, mag), e
}

// up is the magnitude times 2^n, however long: nat.Shl has a limit, products have none.
func up(mag []uint32, n int) []uint32 {
	part := nat.Mul([]uint32{1 << (n % limbBits)}, mag)
	if len(part) == 0 {
		return nil
	}
	out := make([]uint32, n/limbBits+len(part))
	copy(out[n/limbBits:], part)
	return out
}

// downAbove is the magnitude by 2^n, rounded up: the floor of a number below 0 is away from 0. The magnitude is not 0.
func downAbove(mag []uint32, n int) []uint32 {
	one := []uint32{1}
	less, _ := nat.Sub(mag, one)
	part, _ := nat.Shr(less, n)
	return nat.Add(part, one)
}

// Root: the floor of the square root; ErrRoot, if a is below 0.
func Root(a api.Int) (api.Int, api.Errno) {
	if Sign(a) < 0 {
		return api.Int{}, api.ErrRoot
	}
	return signed(false, nat.Root(a.Mag)), api.OK
}

// Bits: how many binary digits the magnitude has.
func Bits(a api.Int) int {
	return nat.Bits(a.Mag)
}

// topBits is as many bits as a float64 holds.
const topBits = 53

// Top: the magnitude is m * 2^e, with m below 2^53 and e the least that goes, but for what is cut off; true, if that is nothing.
func Top(a api.Int) (uint64, int, bool) {
	e := max(0, Bits(a)-topBits)
	m, _ := nat.Shr(a.Mag, e)
	return word(m), e, noughts(a.Mag) >= e
}

// noughts is how many binary noughts stand below the lowest 1.
func noughts(mag []uint32) int {
	for i := range len(mag) {
		if mag[i] != 0 {
			return limbBits*i + bits.TrailingZeros32(mag[i])
		}
	}
	return 0
}
