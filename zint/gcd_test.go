package zint_test

import (
	"math"
	"math/big"
	"math/rand"
	"testing"

	"trammel/api"
	"trammel/zint"
)

// P2.4.

func TestCommonDivisors(t *testing.T) {
	pairs(func(a, b api.Int) { checkCommon(t, a, b) })
	for a := int64(-30); a <= 30; a++ {
		for b := int64(-30); b <= 30; b++ {
			checkCommon(t, zint.Of(a), zint.Of(b))
		}
	}
	for _, a := range []int64{math.MinInt64, math.MinInt64 + 1, math.MaxInt64, math.MaxInt64 - 1} {
		for _, b := range []int64{math.MinInt64, math.MaxInt64, 3, -6, 1 << 32} {
			checkCommon(t, zint.Of(a), zint.Of(b))
		}
	}
}

func TestCommonDivisorsOfLongNumbers(t *testing.T) {
	r := rand.New(rand.NewSource(6))
	for range 1500 {
		g := draw(r, r.Intn(12))
		a, b := zint.Mul(g, draw(r, r.Intn(25))), zint.Mul(g, draw(r, r.Intn(25)))
		checkCommon(t, a, b)
		checkCommon(t, a, zint.Add(a, b))
		checkCommon(t, a, zint.Mul(b, draw(r, 3)))
	}
	checkCommon(t, draw(r, 2000), draw(r, 2100))
	checkCommon(t, draw(r, 3000), draw(r, 100))
	checkCommon(t, draw(r, 100), draw(r, 3000))
}

// TestBezoutOfNeighbours: of the numbers of Fibonacci's row all quotients are 1, so the row of rests is as long as it can be.
func TestBezoutOfNeighbours(t *testing.T) {
	a, b := big.NewInt(0), big.NewInt(1)
	for range 2000 {
		a, b = b, new(big.Int).Add(a, b)
		checkCommon(t, form(a), form(b))
		checkCommon(t, form(b), form(a))
	}
}

func checkCommon(t *testing.T, a, b api.Int) {
	t.Helper()
	x, y := value(a), value(b)
	// The library takes no number below 0 for its own.
	g := new(big.Int).GCD(nil, nil, new(big.Int).Abs(x), new(big.Int).Abs(y))
	want(t, "Gcd", zint.Gcd(a, b), g)
	gotG, gotX, gotY := zint.Bezout(a, b)
	want(t, "Bezout's g", gotG, g)
	share, other := shares(g, x, y)
	want(t, "Bezout's x", gotX, share)
	want(t, "Bezout's y", gotY, other)
}

// shares finds x by the inverse of a / g to the modulus b / g.
func shares(g, a, b *big.Int) (*big.Int, *big.Int) {
	if b.Sign() == 0 {
		return big.NewInt(int64(a.Sign())), new(big.Int)
	}
	m := new(big.Int).Abs(new(big.Int).Quo(b, g))
	x := new(big.Int)
	if m.Cmp(big.NewInt(1)) > 0 {
		x.ModInverse(new(big.Int).Quo(a, g), m)
	}
	y := new(big.Int).Sub(g, new(big.Int).Mul(x, a))
	return x, y.Quo(y, b)
}

// TestLeastShare holds x against all that are below it, without the library.
func TestLeastShare(t *testing.T) {
	for a := int64(-20); a <= 20; a++ {
		for b := int64(-20); b <= 20; b++ {
			bigG, bigX, bigY := zint.Bezout(zint.Of(a), zint.Of(b))
			g, _ := zint.Small(bigG)
			x, _ := zint.Small(bigX)
			y, _ := zint.Small(bigY)
			if x*a+y*b != g || x > 20 {
				t.Fatalf("Bezout of %d, %d: %d %d %d", a, b, g, x, y)
			}
			for less := int64(0); b != 0 && less < x; less++ {
				if (g-less*a)%b == 0 {
					t.Errorf("Bezout of %d, %d: %d goes too", a, b, less)
				}
			}
			if b != 0 && x < 0 || b == 0 && (y != 0 || x < -1 || x > 1) {
				t.Errorf("Bezout of %d, %d: x is %d", a, b, x)
			}
		}
	}
}
