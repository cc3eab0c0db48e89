package zint_test

import (
	"math"
	"math/big"
	"testing"

	"trammel/api"
	"trammel/zint"
)

// P2.1, but for sums and products.

func words() []int64 {
	out := []int64{0, 1, -1, 7, -7, math.MaxInt64, math.MaxInt64 - 1, math.MinInt64, math.MinInt64 + 1}
	for _, n := range []int64{1 << 31, 1 << 32, 1 << 33, 1 << 53, 1 << 62} {
		out = append(out, n-1, n, n+1, -n-1, -n, -n+1)
	}
	return out
}

func TestOf(t *testing.T) {
	for _, n := range words() {
		want(t, "Of", zint.Of(n), big.NewInt(n))
	}
}

func TestSmall(t *testing.T) {
	for _, n := range words() {
		if m, ok := zint.Small(zint.Of(n)); m != n || !ok {
			t.Errorf("Small of %d: %d %v", n, m, ok)
		}
	}
	for _, a := range samples() {
		n := value(a)
		m, ok := zint.Small(a)
		if ok != n.IsInt64() || ok && m != n.Int64() || !ok && m != 0 {
			t.Errorf("Small(%v): %d %v", a, m, ok)
		}
	}
}

func TestSmallAtTheEnds(t *testing.T) {
	for _, c := range []struct {
		a  api.Int
		n  int64
		ok bool
	}{
		{num(false, top, 1<<31-1), math.MaxInt64, true},
		{num(false, top, 1<<31-1, 0, 0), math.MaxInt64, true},
		{num(false, 0, 1<<31), 0, false},
		{num(true, 0, 1<<31), math.MinInt64, true},
		{num(true, 0, 1<<31, 0), math.MinInt64, true},
		{num(true, 1, 1<<31), 0, false},
		{num(true, top, top), 0, false},
		{num(false, top, top), 0, false},
		{num(false, 1, 0, 1), 0, false},
		{num(true, 0, 0, 1), 0, false},
		{num(true, 0, 0), 0, true},
	} {
		if n, ok := zint.Small(c.a); n != c.n || ok != c.ok {
			t.Errorf("Small(%v): %d %v", c.a, n, ok)
		}
	}
}

func TestForm(t *testing.T) {
	for _, a := range noughts() {
		if out := zint.Form(a); out.Neg || len(out.Mag) != 0 {
			t.Errorf("Form(%v): %v", a, out)
		}
	}
	for _, a := range samples() {
		want(t, "Form", zint.Form(a), value(a))
	}
}

func TestSign(t *testing.T) {
	for _, a := range samples() {
		if out := zint.Sign(a); out != value(a).Sign() {
			t.Errorf("Sign(%v): %d", a, out)
		}
	}
}

func TestCompare(t *testing.T) {
	pairs(func(a, b api.Int) {
		if out := zint.Compare(a, b); out != value(a).Cmp(value(b)) {
			t.Errorf("Compare(%v, %v): %d", a, b, out)
		}
	})
}

func TestNegAbs(t *testing.T) {
	for _, a := range samples() {
		want(t, "Neg", zint.Neg(a), new(big.Int).Neg(value(a)))
		want(t, "Abs", zint.Abs(a), new(big.Int).Abs(value(a)))
	}
}
