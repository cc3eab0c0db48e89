package nat_test

import (
	"math"
	"math/big"
	"testing"

	"trammel/api"
	"trammel/nat"
)

// NA3.

func TestShifts(t *testing.T) {
	for _, a := range samples() {
		for n := range 100 {
			out, e := nat.Shl(a, n)
			wantErr(t, "Shl", e, api.OK)
			want(t, "Shl", out, new(big.Int).Lsh(value(a), uint(n)))
			out, e = nat.Shr(a, n)
			wantErr(t, "Shr", e, api.OK)
			want(t, "Shr", out, new(big.Int).Rsh(value(a), uint(n)))
		}
	}
}

func TestShiftsBelowNought(t *testing.T) {
	for _, n := range []int{-1, -32, math.MinInt} {
		for _, a := range [][]uint32{nil, {0}, {1}, make([]uint32, api.MaxShift/32+1)} {
			out, e := nat.Shl(a, n)
			wantErr(t, "Shl", e, api.ErrArg)
			none(t, "Shl", out)
			out, e = nat.Shr(a, n)
			wantErr(t, "Shr", e, api.ErrArg)
			none(t, "Shr", out)
		}
	}
}

func TestShlAtItsLimit(t *testing.T) {
	for _, a := range [][]uint32{{1}, {1, 0, 0}, {6}, {top}, {0, 0, 5}} {
		most := api.MaxShift - nat.Bits(a)
		out, e := nat.Shl(a, most)
		wantErr(t, "Shl", e, api.OK)
		want(t, "Shl", out, new(big.Int).Lsh(value(a), uint(most)))
		for _, n := range []int{most + 1, api.MaxShift, math.MaxInt - 1, math.MaxInt} {
			out, e = nat.Shl(a, n)
			wantErr(t, "Shl", e, api.ErrLong)
			none(t, "Shl", out)
		}
	}
}

func TestShlOfALongNumber(t *testing.T) {
	a := make([]uint32, api.MaxShift/32+1)
	a[api.MaxShift/32-1] = top
	out, e := nat.Shl(a, 0)
	wantErr(t, "Shl of MaxShift bits", e, api.OK)
	want(t, "Shl of MaxShift bits", out, value(a))
	a[api.MaxShift/32] = 1
	out, e = nat.Shl(a, 0)
	wantErr(t, "Shl of a bit more", e, api.ErrLong)
	none(t, "Shl of a bit more", out)
	out, e = nat.Shr(a, api.MaxShift)
	wantErr(t, "Shr of a bit more", e, api.OK)
	want(t, "Shr of a bit more", out, big.NewInt(1))
}

func TestShiftsByMuch(t *testing.T) {
	for _, n := range []int{api.MaxShift, api.MaxShift + 1, math.MaxInt} {
		for _, a := range [][]uint32{nil, {}, {0, 0}} {
			out, e := nat.Shl(a, n)
			wantErr(t, "Shl of 0", e, api.OK)
			want(t, "Shl of 0", out, new(big.Int))
		}
		out, e := nat.Shr([]uint32{top, top}, n)
		wantErr(t, "Shr", e, api.OK)
		want(t, "Shr", out, new(big.Int))
	}
}
