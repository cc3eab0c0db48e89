package zint_test

import (
	"math"
	"math/big"
	"math/rand"
	"slices"
	"testing"

	"trammel/api"
	"trammel/zint"
)

// P2.2.

func TestPower(t *testing.T) {
	for _, a := range samples() {
		for n := range 9 {
			out, e := zint.Power(a, n)
			wantErr(t, "Power", e, api.OK)
			want(t, "Power", out, new(big.Int).Exp(value(a), big.NewInt(int64(n)), nil))
		}
	}
}

func TestPowerAtItsLimit(t *testing.T) {
	for _, c := range []struct {
		a api.Int
		n int
		e api.Errno
	}{
		{zint.Of(1), api.MaxPower, api.OK},
		{zint.Of(-1), api.MaxPower, api.OK},
		{zint.Of(-1), api.MaxPower - 1, api.OK},
		{zint.Of(1), api.MaxPower + 1, api.ErrLong},
		{zint.Of(-1), api.MaxPower + 1, api.ErrLong},
		{num(true, 1, 0, 0), api.MaxPower, api.OK},
		{zint.Of(2), api.MaxPower / 2, api.OK},
		{zint.Of(-3), api.MaxPower / 2, api.OK},
		{zint.Of(2), api.MaxPower/2 + 1, api.ErrLong},
		{zint.Of(7), api.MaxPower / 3, api.OK},
		{zint.Of(4), api.MaxPower/3 + 1, api.ErrLong},
		{form(power(api.MaxPower - 1)), 1, api.OK},
		{form(power(api.MaxPower)), 1, api.ErrLong},
		{form(power(api.MaxPower/2 - 1)), 2, api.OK},
		{form(power(api.MaxPower / 2)), 2, api.ErrLong},
		{form(power(api.MaxPower)), 0, api.OK},
		{num(true, 0, 0), api.MaxPower + 1, api.OK},
		{num(false), math.MaxInt, api.OK},
		{zint.Of(1), math.MaxInt, api.ErrLong},
		{zint.Of(math.MinInt64), math.MaxInt, api.ErrLong},
		// A product that went round the end of an int would be small here.
		{num(false, 1<<15), 1 << 60, api.ErrLong},
	} {
		out, e := zint.Power(c.a, c.n)
		wantErr(t, "Power", e, c.e)
		if c.e == api.OK {
			want(t, "Power", out, raise(c.a, c.n))
		} else {
			none(t, "Power", out)
		}
	}
}

// raise spares the library what it would do bit by bit.
func raise(a api.Int, n int) *big.Int {
	if value(a).Sign() == 0 && n > 0 {
		return new(big.Int)
	}
	return new(big.Int).Exp(value(a), big.NewInt(int64(n)), nil)
}

func TestPowerBelow0(t *testing.T) {
	for _, a := range append(samples(), form(power(api.MaxPower))) {
		for _, n := range []int{-1, -2, -api.MaxPower - 1, math.MinInt} {
			out, e := zint.Power(a, n)
			wantErr(t, "Power below 0", e, api.ErrArg)
			none(t, "Power below 0", out)
		}
	}
}

func TestShift(t *testing.T) {
	for _, a := range samples() {
		for n := -200; n <= 200; n++ {
			checkShift(t, a, n)
		}
		for _, n := range []int{4096, -4096, api.MaxPower - 1, api.MaxPower, 1 - api.MaxPower, -api.MaxPower} {
			checkShift(t, a, n)
		}
	}
	r := rand.New(rand.NewSource(3))
	for range 300 {
		checkShift(t, draw(r, r.Intn(3000)), r.Intn(2*api.MaxPower+1)-api.MaxPower)
	}
}

func checkShift(t *testing.T, a api.Int, n int) {
	t.Helper()
	out, e := zint.Shift(a, n)
	wantErr(t, "Shift", e, api.OK)
	// The library's shift to the right of a number below 0 is a floor too.
	x := new(big.Int).Rsh(value(a), uint(max(0, -n)))
	want(t, "Shift", out, x.Lsh(x, uint(max(0, n))))
}

func TestShiftRoundsDown(t *testing.T) {
	for _, c := range []struct {
		a   int64
		n   int
		out int64
	}{
		{-1, -1, -1}, {-1, -64, -1}, {-2, -1, -1}, {-3, -1, -2}, {-4, -1, -2}, {-4, -2, -1}, {-5, -2, -2}, {3, -1, 1}, {1, -1, 0}, {-3, 1, -6}, {0, 9, 0},
		{math.MinInt64, -63, -1}, {math.MinInt64 + 1, -62, -2}, {math.MaxInt64, -62, 1}, {math.MaxInt64, -63, 0},
	} {
		out, e := zint.Shift(zint.Of(c.a), c.n)
		wantErr(t, "Shift", e, api.OK)
		want(t, "Shift", out, big.NewInt(c.out))
	}
}

func TestShiftBeyondItsLimit(t *testing.T) {
	for _, a := range samples() {
		for _, n := range []int{api.MaxPower + 1, -api.MaxPower - 1, math.MaxInt, math.MinInt} {
			out, e := zint.Shift(a, n)
			wantErr(t, "Shift beyond the limit", e, api.ErrLong)
			none(t, "Shift beyond the limit", out)
		}
	}
}

// TestShiftOfLongNumbers: the limit is on the places alone, not on the number.
func TestShiftOfLongNumbers(t *testing.T) {
	for _, neg := range []bool{false, true} {
		a := api.Int{Neg: neg, Mag: slices.Repeat([]uint32{5, 0, top}, api.MaxShift/32)}
		checkShift(t, a, api.MaxPower)
		checkShift(t, a, 33)
		checkShift(t, a, -33)
		checkShift(t, a, -api.MaxPower)
	}
}
