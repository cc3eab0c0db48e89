package nat_test

import (
	"math"
	"math/big"
	"math/rand"
	"testing"

	"trammel/api"
	"trammel/nat"
)

// NA4.

func TestGcd(t *testing.T) {
	pairs(func(a, b []uint32) { checkGcd(t, a, b) })
	for _, c := range []struct{ a, b, out []uint32 }{
		{nil, nil, nil},
		{nil, []uint32{6}, []uint32{6}},
		{[]uint32{6, 0}, []uint32{0}, []uint32{6}},
		{[]uint32{12}, []uint32{18}, []uint32{6}},
		{[]uint32{0, 1}, []uint32{1 << 31}, []uint32{1 << 31}},
	} {
		want(t, "Gcd", nat.Gcd(c.a, c.b), value(c.out))
	}
}

func TestGcdOfLongNumbers(t *testing.T) {
	r := rand.New(rand.NewSource(3))
	for range 300 {
		g := draw(r, r.Intn(20))
		checkGcd(t, nat.Mul(g, draw(r, r.Intn(30))), nat.Mul(g, draw(r, r.Intn(30))))
	}
}

// TestGcdOfNeighbours: of the numbers of Fibonacci's row all quotients are 1, so the row of rests is as long as it can be.
func TestGcdOfNeighbours(t *testing.T) {
	a, b := []uint32{1}, []uint32{1}
	for range 2000 {
		a, b = nat.Add(a, b), a
	}
	checkGcd(t, a, b)
	checkGcd(t, nat.Mul(a, []uint32{0, 0, 0, 7}), nat.Mul(b, []uint32{0, 0, 0, 7}))
}

func checkGcd(t *testing.T, a, b []uint32) {
	t.Helper()
	want(t, "Gcd", nat.Gcd(a, b), new(big.Int).GCD(nil, nil, value(a), value(b)))
}

func TestRoot(t *testing.T) {
	for n := range 5000 {
		checkRoot(t, []uint32{uint32(n)})
	}
	for _, a := range samples() {
		checkRoot(t, a)
		square := nat.Mul(a, a)
		checkRoot(t, square)
		checkRoot(t, nat.Add(square, []uint32{1}))
		if below, e := nat.Sub(square, []uint32{1}); e == api.OK {
			checkRoot(t, below)
		}
	}
	want(t, "Root(8)", nat.Root([]uint32{8}), big.NewInt(2))
}

func TestRootOfLongNumbers(t *testing.T) {
	r := rand.New(rand.NewSource(4))
	for range 200 {
		checkRoot(t, draw(r, r.Intn(80)))
	}
	checkRoot(t, draw(r, 3000))
}

func checkRoot(t *testing.T, a []uint32) {
	t.Helper()
	want(t, "Root", nat.Root(a), new(big.Int).Sqrt(value(a)))
}

func TestPow(t *testing.T) {
	for _, a := range samples() {
		for n := range 12 {
			out, e := nat.Pow(a, n)
			wantErr(t, "Pow", e, api.OK)
			want(t, "Pow", out, new(big.Int).Exp(value(a), big.NewInt(int64(n)), nil))
		}
	}
}

func TestPowBelowNought(t *testing.T) {
	for _, n := range []int{-1, math.MinInt} {
		for _, a := range [][]uint32{nil, {1}, {2}, {top, top}} {
			out, e := nat.Pow(a, n)
			wantErr(t, "Pow", e, api.ErrArg)
			none(t, "Pow", out)
		}
	}
}

func TestPowOfNoughtAndOne(t *testing.T) {
	for _, n := range []int{1, api.MaxShift, api.MaxShift + 1, math.MaxInt} {
		for _, a := range [][]uint32{nil, {0, 0}, {1}, {1, 0}} {
			out, e := nat.Pow(a, n)
			wantErr(t, "Pow", e, api.OK)
			want(t, "Pow", out, value(a))
		}
	}
}

func TestPowAtItsLimit(t *testing.T) {
	for _, a := range [][]uint32{{2}, {3, 0}, {4}, {top}, {0, 0, 0, 1 << 31}} {
		most := api.MaxShift / nat.Bits(a)
		out, e := nat.Pow(a, most)
		wantErr(t, "Pow", e, api.OK)
		want(t, "Pow", out, new(big.Int).Exp(value(a), big.NewInt(int64(most)), nil))
		for _, n := range []int{most + 1, api.MaxShift, math.MaxInt/2 + 1, math.MaxInt} {
			out, e = nat.Pow(a, n)
			wantErr(t, "Pow", e, api.ErrLong)
			none(t, "Pow", out)
		}
	}
}

func TestPowOfALongNumber(t *testing.T) {
	a := make([]uint32, api.MaxShift/32+1)
	a[api.MaxShift/32-1] = 1 << 31
	out, e := nat.Pow(a, 1)
	wantErr(t, "Pow of MaxShift bits", e, api.OK)
	want(t, "Pow of MaxShift bits", out, value(a))
	a[api.MaxShift/32] = 1
	out, e = nat.Pow(a, 1)
	wantErr(t, "Pow of a bit more", e, api.ErrLong)
	none(t, "Pow of a bit more", out)
	out, e = nat.Pow(a, 0)
	wantErr(t, "Pow to the 0-th", e, api.OK)
	want(t, "Pow to the 0-th", out, big.NewInt(1))
}
