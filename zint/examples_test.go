package zint_test

import (
	"math/big"
	"testing"

	"trammel/api"
	"trammel/zint"
)

// The chapter's examples, as they are told there.

func TestExamplesOfQuotients(t *testing.T) {
	for _, c := range [][4]int64{{-7, 2, -4, 1}, {7, -2, -4, -1}} {
		q, r, e := zint.Floor(zint.Of(c[0]), zint.Of(c[1]))
		wantErr(t, "Floor", e, api.OK)
		want(t, "Floor", q, big.NewInt(c[2]))
		want(t, "Floor's rest", r, big.NewInt(c[3]))
	}
	for _, c := range [][3]int64{{-7, 2, -3}, {7, 2, 4}, {5, -2, -2}} {
		q, e := zint.Near(zint.Of(c[0]), zint.Of(c[1]))
		wantErr(t, "Near", e, api.OK)
		want(t, "Near", q, big.NewInt(c[2]))
	}
	q, e := zint.Exact(zint.Of(6), zint.Of(-3))
	wantErr(t, "Exact", e, api.OK)
	want(t, "Exact", q, big.NewInt(-2))
	_, e = zint.Exact(zint.Of(7), zint.Of(2))
	wantErr(t, "Exact", e, api.ErrRest)
}

func TestExamplesOfBezout(t *testing.T) {
	for _, c := range [][5]int64{{6, 4, 2, 1, -1}, {0, -5, 5, 0, -1}, {-5, 0, 5, -1, 0}, {0, 0, 0, 0, 0}} {
		g, x, y := zint.Bezout(zint.Of(c[0]), zint.Of(c[1]))
		want(t, "g", g, big.NewInt(c[2]))
		want(t, "x", x, big.NewInt(c[3]))
		want(t, "y", y, big.NewInt(c[4]))
	}
}

func TestNumbersOfErrors(t *testing.T) {
	for _, c := range []struct {
		got    api.Errno
		number int
	}{
		{errOf(zint.Power(zint.Of(2), -1)), 1},
		{errOf(zint.Shift(zint.Of(2), api.MaxPower+1)), 2},
		{errOf(zint.Near(zint.Of(2), zint.Of(0))), 11},
		{errOf(zint.Exact(zint.Of(2), zint.Of(4))), 20},
		{errOf(zint.Root(zint.Of(-1))), 21},
	} {
		if int(c.got) != c.number {
			t.Errorf("error %d instead of %d", c.got, c.number)
		}
	}
}

func errOf(_ api.Int, e api.Errno) api.Errno { return e }
