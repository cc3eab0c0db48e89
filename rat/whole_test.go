package rat_test

import (
	"math/big"
	"math/rand"
	"testing"

	"trammel/api"
	"trammel/rat"
)

// RA3.

// floor is the greatest whole number that is not above r: the library's Div goes down where the divisor is above 0.
func floor(r *big.Rat) *big.Int { return new(big.Int).Div(r.Num(), r.Denom()) }

func checkWhole(t *testing.T, a api.Rat) {
	t.Helper()
	x := value(a)
	out, e := rat.Floor(a)
	wantErr(t, "Floor", e, api.OK)
	wantInt(t, "Floor", out, floor(x))
	near := floor(new(big.Rat).Add(x, big.NewRat(1, 2)))
	out, e = rat.Near(a)
	wantErr(t, "Near", e, api.OK)
	wantInt(t, "Near", out, near)
	dist := new(big.Rat).Sub(x, new(big.Rat).SetInt(near))
	far, e := rat.Dist(a)
	wantErr(t, "Dist", e, api.OK)
	want(t, "Dist", far, dist.Abs(dist))
}

func TestWhole(t *testing.T) {
	for _, a := range samples() {
		checkWhole(t, a)
	}
	for n := int64(-60); n <= 60; n++ {
		for d := int64(1); d <= 12; d++ {
			checkWhole(t, q(n, d))
		}
	}
}

func TestWholeOfLongOnes(t *testing.T) {
	r := rand.New(rand.NewSource(4))
	for range 1000 {
		checkWhole(t, drawRat(r, 15))
	}
}

// TestHalves: a whole number and a half, and what is just below and above that, by long denominators too.
func TestHalves(t *testing.T) {
	one := big.NewInt(1)
	for bits := range 100 {
		den := new(big.Int).Lsh(one, uint(bits))
		for n := int64(-5); n <= 5; n++ {
			half := new(big.Int).Mul(big.NewInt(2*n+1), den)
			d := form(new(big.Int).Lsh(den, 1))
			checkWhole(t, api.Rat{Num: form(half), Den: d})
			checkWhole(t, api.Rat{Num: form(new(big.Int).Add(half, one)), Den: d})
			checkWhole(t, api.Rat{Num: form(new(big.Int).Sub(half, one)), Den: d})
		}
	}
}

// TestNearHasNoneNearer holds Near against the whole numbers about it, without the library.
func TestNearHasNoneNearer(t *testing.T) {
	far := func(a api.Rat, n int64) api.Rat {
		d, _ := rat.Sub(a, q(n, 1))
		if d.Num.Neg {
			d, _ = rat.Sub(q(n, 1), a)
		}
		return d
	}
	for n := int64(-30); n <= 30; n++ {
		for d := int64(1); d <= 8; d++ {
			a := q(n, d)
			near, _ := rat.Near(a)
			dist, _ := rat.Dist(a)
			at := whole(near).Int64()
			for m := at - 3; m <= at+3; m++ {
				order, e := rat.Cmp(far(a, m), dist)
				if e != api.OK || order < 0 || order == 0 && m > at || m == at && order != 0 {
					t.Errorf("%d/%d: %d is nearer than %d", n, d, m, at)
				}
			}
		}
	}
}
