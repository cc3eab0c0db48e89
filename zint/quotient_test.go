package zint_test

import (
	"math"
	"math/big"
	"math/rand"
	"slices"
	"testing"

	"trammel/api"
	"trammel/zint"
)

// P2.3.

func TestQuotients(t *testing.T) {
	pairs(func(a, b api.Int) { checkQuotients(t, a, b) })
	for a := int64(-40); a <= 40; a++ {
		for b := int64(-12); b <= 12; b++ {
			checkQuotients(t, zint.Of(a), zint.Of(b))
		}
	}
	r := rand.New(rand.NewSource(5))
	for range 1000 {
		a, b := draw(r, r.Intn(12)), draw(r, r.Intn(12))
		checkQuotients(t, a, b)
		checkQuotients(t, zint.Mul(a, b), b)
	}
}

func checkQuotients(t *testing.T, a, b api.Int) {
	t.Helper()
	x, y := value(a), value(b)
	if y.Sign() == 0 {
		checkNoQuotient(t, a, b)
		return
	}
	q, r := floor(x, y)
	gotQ, gotR, e := zint.Floor(a, b)
	wantErr(t, "Floor", e, api.OK)
	want(t, "Floor", gotQ, q)
	want(t, "Floor's rest", gotR, r)
	exact, e := zint.Exact(a, b)
	if r.Sign() == 0 {
		wantErr(t, "Exact", e, api.OK)
		want(t, "Exact", exact, q)
	} else {
		wantErr(t, "Exact", e, api.ErrRest)
		none(t, "Exact", exact)
	}
	near, e := zint.Near(a, b)
	wantErr(t, "Near", e, api.OK)
	// a / b + 1/2 is (2 a + b) / (2 b).
	twice := new(big.Int).Lsh(y, 1)
	half, _ := floor(new(big.Int).Add(new(big.Int).Lsh(x, 1), y), twice)
	want(t, "Near", near, half)
}

// floor: the library's quotient is cut towards 0.
func floor(x, y *big.Int) (*big.Int, *big.Int) {
	q, r := new(big.Int).QuoRem(x, y, new(big.Int))
	if r.Sign() != 0 && r.Sign() != y.Sign() {
		q.Sub(q, big.NewInt(1))
		r.Add(r, y)
	}
	return q, r
}

func checkNoQuotient(t *testing.T, a, b api.Int) {
	t.Helper()
	q, r, e := zint.Floor(a, b)
	wantErr(t, "Floor by 0", e, api.ErrDiv)
	none(t, "Floor by 0", q, r)
	q, e = zint.Near(a, b)
	wantErr(t, "Near by 0", e, api.ErrDiv)
	none(t, "Near by 0", q)
	q, e = zint.Exact(a, b)
	wantErr(t, "Exact by 0", e, api.ErrDiv)
	none(t, "Exact by 0", q)
}

func TestNearOfHalves(t *testing.T) {
	for _, c := range [][3]int64{
		{1, 2, 1}, {-1, 2, 0}, {1, -2, 0}, {-1, -2, 1},
		{7, 2, 4}, {-7, 2, -3}, {5, -2, -2}, {-5, -2, 3},
		{9, 6, 2}, {-9, 6, -1}, {10, 7, 1}, {11, 7, 2}, {-10, 7, -1}, {-11, 7, -2},
		{math.MinInt64, -2, 1 << 62}, {math.MinInt64, 2, -1 << 62}, {math.MaxInt64, 2, 1 << 62}, {math.MaxInt64, -2, -(1<<62 - 1)},
		{0, -3, 0}, {1, 3, 0}, {2, 3, 1}, {-1, 3, 0}, {-2, 3, -1},
	} {
		near, e := zint.Near(zint.Of(c[0]), zint.Of(c[1]))
		wantErr(t, "Near", e, api.OK)
		want(t, "Near", near, big.NewInt(c[2]))
	}
}

// TestQuotientsOfLongNumbers: none of them has a limit.
func TestQuotientsOfLongNumbers(t *testing.T) {
	a := api.Int{Neg: true, Mag: slices.Repeat([]uint32{1, top, 0, 7}, api.MaxShift/32)}
	b := api.Int{Mag: slices.Repeat([]uint32{0, 0, 3, 1}, api.MaxShift/32)}
	checkQuotients(t, a, b)
	checkQuotients(t, b, a)
	checkQuotients(t, a, zint.Of(-2))
}
