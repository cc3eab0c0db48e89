package rat_test

import (
	"math/big"
	"math/rand"
	"testing"

	"trammel/api"
	"trammel/rat"
)

// RA1.

func checkMake(t *testing.T, n, d api.Int) {
	t.Helper()
	out, e := rat.Make(n, d)
	if whole(d).Sign() == 0 {
		wantErr(t, "Make", e, api.ErrDiv)
		none(t, "Make", out)
		return
	}
	wantErr(t, "Make", e, api.OK)
	want(t, "Make", out, new(big.Rat).SetFrac(whole(n), whole(d)))
}

func TestMake(t *testing.T) {
	for _, n := range ints() {
		for _, d := range ints() {
			checkMake(t, n, d)
		}
	}
	for n := int64(-40); n <= 40; n++ {
		for d := int64(-40); d <= 40; d++ {
			checkMake(t, small(n), small(d))
		}
	}
}

func TestMakeOfLongNumbers(t *testing.T) {
	r := rand.New(rand.NewSource(2))
	for range 1000 {
		n, d, c := whole(draw(r, r.Intn(20))), whole(draw(r, r.Intn(20))), whole(draw(r, r.Intn(20)))
		checkMake(t, form(n), form(d))
		checkMake(t, form(n.Mul(n, c)), form(d.Mul(d, c)))
		checkMake(t, form(n), form(n))
		checkMake(t, form(n), form(n.Neg(n)))
	}
}

func TestMakeByNought(t *testing.T) {
	for _, n := range ints() {
		for _, d := range noughts() {
			out, e := rat.Make(n, d)
			wantErr(t, "Make", e, api.ErrDiv)
			none(t, "Make", out)
		}
	}
}

func TestOf(t *testing.T) {
	for _, n := range ints() {
		want(t, "Of", rat.Of(n), new(big.Rat).SetInt(whole(n)))
	}
}
