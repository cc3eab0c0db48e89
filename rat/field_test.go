package rat_test

import (
	"math/big"
	"math/rand"
	"testing"

	"trammel/api"
	"trammel/rat"
)

// RA2.

func checkField(t *testing.T, a, b api.Rat) {
	t.Helper()
	x, y := value(a), value(b)
	for _, c := range []struct {
		name string
		call func(a, b api.Rat) (api.Rat, api.Errno)
		out  *big.Rat
	}{
		{"Add", rat.Add, new(big.Rat).Add(x, y)},
		{"Sub", rat.Sub, new(big.Rat).Sub(x, y)},
		{"Mul", rat.Mul, new(big.Rat).Mul(x, y)},
	} {
		out, e := c.call(a, b)
		wantErr(t, c.name, e, api.OK)
		want(t, c.name, out, c.out)
	}
	checkDiv(t, a, b)
	out, e := rat.Cmp(a, b)
	wantErr(t, "Cmp", e, api.OK)
	if out != x.Cmp(y) {
		t.Errorf("Cmp(%v, %v): %d", a, b, out)
	}
}

func checkDiv(t *testing.T, a, b api.Rat) {
	t.Helper()
	out, e := rat.Div(a, b)
	if value(b).Sign() == 0 {
		wantErr(t, "Div", e, api.ErrDiv)
		none(t, "Div", out)
		return
	}
	wantErr(t, "Div", e, api.OK)
	want(t, "Div", out, new(big.Rat).Quo(value(a), value(b)))
}

func TestField(t *testing.T) {
	pairs(func(a, b api.Rat) { checkField(t, a, b) })
}

func TestFieldOfSmallOnes(t *testing.T) {
	all := []api.Rat{}
	for n := int64(-6); n <= 6; n++ {
		for d := int64(1); d <= 6; d++ {
			all = append(all, q(n, d))
		}
	}
	for _, a := range all {
		for _, b := range all {
			checkField(t, a, b)
		}
	}
}

func TestFieldOfLongOnes(t *testing.T) {
	r := rand.New(rand.NewSource(3))
	for range 1000 {
		a, b := drawRat(r, 15), drawRat(r, 15)
		checkField(t, a, b)
		checkField(t, a, api.Rat{Num: b.Num, Den: a.Den})
		checkField(t, a, a)
	}
}

// TestDivByNought: the divisor is looked at in all its fields, and behind what may not be.
func TestDivByNought(t *testing.T) {
	for _, n := range noughts() {
		for _, d := range []api.Int{num(false, 1), num(false, 6, 0)} {
			nought := api.Rat{Num: n, Den: d}
			for _, a := range samples() {
				out, e := rat.Div(a, nought)
				wantErr(t, "Div", e, api.ErrDiv)
				none(t, "Div", out)
			}
			for _, a := range unfit() {
				out, e := rat.Div(a, nought)
				wantErr(t, "Div", e, api.ErrRat)
				none(t, "Div", out)
			}
		}
	}
}

// TestCmpOfNeighbours: rationals that are as near each other as their terms allow.
func TestCmpOfNeighbours(t *testing.T) {
	a, b, c, d := big.NewInt(0), big.NewInt(1), big.NewInt(1), big.NewInt(1)
	for range 300 {
		x, y := api.Rat{Num: form(a), Den: form(b)}, api.Rat{Num: form(c), Den: form(d)}
		checkField(t, x, y)
		checkField(t, y, x)
		a, b, c, d = c, d, new(big.Int).Add(a, c), new(big.Int).Add(b, d)
	}
}
