package zint_test

import (
	"math"
	"math/big"
	"math/rand"
	"slices"
	"testing"

	"trammel/api"
	"trammel/zint"
)

// P2.5.

func TestRoot(t *testing.T) {
	for n := range int64(300) {
		checkRoot(t, zint.Of(n))
	}
	for _, a := range samples() {
		checkRoot(t, a)
		square := zint.Mul(a, a)
		checkRoot(t, square)
		checkRoot(t, zint.Add(square, zint.Of(1)))
		checkRoot(t, zint.Sub(square, zint.Of(1)))
	}
}

func checkRoot(t *testing.T, a api.Int) {
	t.Helper()
	out, e := zint.Root(a)
	if value(a).Sign() < 0 {
		wantErr(t, "Root below 0", e, api.ErrRoot)
		none(t, "Root below 0", out)
		return
	}
	wantErr(t, "Root", e, api.OK)
	want(t, "Root", out, new(big.Int).Sqrt(value(a)))
}

func TestRootOf0(t *testing.T) {
	for _, a := range noughts() {
		checkRoot(t, a)
	}
}

func TestBits(t *testing.T) {
	for _, a := range samples() {
		if out := zint.Bits(a); out != value(a).BitLen() {
			t.Errorf("Bits(%v): %d", a, out)
		}
	}
	for _, c := range []struct {
		a   int64
		out int
	}{{0, 0}, {1, 1}, {-1, 1}, {7, 3}, {8, 4}, {-8, 4}, {math.MinInt64, 64}, {math.MaxInt64, 63}} {
		if out := zint.Bits(zint.Of(c.a)); out != c.out {
			t.Errorf("Bits of %d: %d", c.a, out)
		}
	}
}

func TestTopNear53Bits(t *testing.T) {
	for _, c := range []struct {
		a     int64
		m     uint64
		e     int
		exact bool
	}{
		{0, 0, 0, true}, {5, 5, 0, true}, {-5, 5, 0, true},
		{1<<53 - 1, 1<<53 - 1, 0, true}, {-(1<<53 - 1), 1<<53 - 1, 0, true},
		{1 << 53, 1 << 52, 1, true}, {-(1 << 53), 1 << 52, 1, true},
		{1<<53 + 1, 1 << 52, 1, false}, {1<<53 + 2, 1<<52 + 1, 1, true},
		{1<<54 - 1, 1<<53 - 1, 1, false}, {1<<54 - 2, 1<<53 - 1, 1, true},
		{1 << 54, 1 << 52, 2, true}, {1<<54 + 2, 1 << 52, 2, false},
		{1<<60 + 1, 1 << 52, 8, false}, {1<<60 + 1<<7, 1 << 52, 8, false}, {1<<60 + 1<<8, 1<<52 + 1, 8, true},
		{math.MaxInt64, 1<<53 - 1, 10, false}, {math.MinInt64, 1 << 52, 11, true},
	} {
		if m, e, exact := zint.Top(zint.Of(c.a)); m != c.m || e != c.e || exact != c.exact {
			t.Errorf("Top of %d: %d %d %v", c.a, m, e, exact)
		}
	}
}

func TestTop(t *testing.T) {
	for _, a := range samples() {
		checkTop(t, a)
	}
	r := rand.New(rand.NewSource(4))
	for range 500 {
		checkTop(t, draw(r, r.Intn(6)))
		low := slices.Concat(make([]uint32, r.Intn(4)), draw(r, r.Intn(3)).Mag, make([]uint32, r.Intn(2)))
		checkTop(t, num(true, low...))
	}
	// 53 bits at every place, with nothing below them and with 1.
	for n := range 200 {
		a := new(big.Int).Lsh(big.NewInt(1<<53-1), uint(n))
		checkTop(t, form(a))
		checkTop(t, form(a.Add(a, big.NewInt(1))))
	}
}

func checkTop(t *testing.T, a api.Int) {
	t.Helper()
	x := new(big.Int).Abs(value(a))
	e := max(0, x.BitLen()-53)
	m := new(big.Int).Rsh(x, uint(e))
	exact := new(big.Int).Lsh(m, uint(e)).Cmp(x) == 0
	gotM, gotE, gotExact := zint.Top(a)
	if gotM != m.Uint64() || gotE != e || gotExact != exact {
		t.Errorf("Top(%v): %d %d %v", a, gotM, gotE, gotExact)
	}
}

func TestTopOfLongNumbers(t *testing.T) {
	checkTop(t, form(power(3*api.MaxShift)))
	checkTop(t, form(value1s(api.MaxShift/16)))
}
