package gso_test

import (
	"math/big"
	"math/rand"
	"slices"
	"testing"

	"trammel/api"
	"trammel/gso"
)

// GS5.

func values(t []api.Rat) []bigRat {
	out := []bigRat{}
	for _, r := range t {
		out = append(out, value(r))
	}
	return out
}

// checkCoords: a point of the span is the nearest one just if what is left of t stands upright on all rows.
func checkCoords(t *testing.T, b [][]api.Int, target []api.Rat) {
	t.Helper()
	c, d, e := gso.Coords(b, target)
	wantErr(t, "Coords", e, api.OK)
	if len(c) != len(b) {
		t.Fatalf("Coords: %d numbers for %d rows", len(c), len(b))
	}
	for i := range c {
		want(t, "lowest terms", c[i], value(c[i]))
	}
	rest := less(values(target), big.NewRat(1, 1), sumOf(values(c), b))
	for _, row := range b {
		if dot(rest, rationals(row)).Sign() != 0 {
			t.Errorf("Coords(%v, %v): %v is not nearest", b, target, c)
		}
	}
	want(t, "the distance", d, dot(rest, rest))
}

// drawTarget gives rationals that may be, many not in lowest terms, of at most n limbs each.
func drawTarget(r *rand.Rand, width, n int) []api.Rat {
	out := make([]api.Rat, width)
	for i := range out {
		out[i] = api.Rat{Num: draw(r, n), Den: above(r, n)}
		if r.Intn(2) == 0 {
			k := whole(above(r, 2))
			out[i] = api.Rat{Num: form(k.Mul(k, whole(out[i].Num))), Den: form(new(big.Int).Mul(big.NewInt(6), whole(out[i].Den)))}
		}
	}
	return out
}

func TestCoords(t *testing.T) {
	r := rand.New(rand.NewSource(41))
	for _, b := range bases(42) {
		width := len(b[0])
		checkCoords(t, b, slices.Repeat([]api.Rat{q(0, 7)}, width))
		checkCoords(t, b, slices.Repeat([]api.Rat{q(6, 4)}, width))
		checkCoords(t, b, drawTarget(r, width, 1))
		checkCoords(t, b, drawTarget(r, width, 4))
	}
	checkCoords(t, drawBasis(r, 3, 5, long(2)), drawTarget(r, 5, 60))
	checkCoords(t, drawBasis(r, 12, 12, digit), drawTarget(r, 12, 1))
	checkCoords(t, drawBasis(r, 11, 12, long(8)), drawTarget(r, 12, 8))
}

// TestCoordsOfPointsOfTheSpan: they are found again, and nothing is left.
func TestCoordsOfPointsOfTheSpan(t *testing.T) {
	r := rand.New(rand.NewSource(43))
	for _, b := range bases(44) {
		x := values(drawTarget(r, len(b), 2))
		target := []api.Rat{}
		for _, a := range sumOf(x, b) {
			target = append(target, api.Rat{Num: form(a.Num()), Den: form(a.Denom())})
		}
		c, d, e := gso.Coords(b, target)
		wantErr(t, "Coords", e, api.OK)
		for i := range x {
			want(t, "Coords", c[i], x[i])
		}
		want(t, "the distance", d, new(big.Rat))
	}
}

// noRats are rationals that may not be.
func noRats() []api.Rat {
	return []api.Rat{{}, q(1, 0), q(0, 0), q(1, -1), {Num: num(false, 1), Den: num(true, 0, 0)}, {Num: num(false, 1), Den: num(true, 0, 1)}}
}

func TestCoordsRefuses(t *testing.T) {
	refused := func(b [][]api.Int, target []api.Rat, e api.Errno) {
		t.Helper()
		c, d, got := gso.Coords(b, target)
		wantErr(t, "Coords", got, e)
		none(t, "Coords", d)
		if len(c) != 0 {
			t.Errorf("Coords: %v beside an error", c)
		}
	}
	good := []api.Rat{q(1, 2), q(1, 3)}
	plain := rows(vec(1, 0), vec(0, 1))
	for _, bad := range noRats() {
		refused(plain, []api.Rat{bad, good[1]}, api.ErrRat)
		refused(plain, []api.Rat{good[0], bad}, api.ErrRat)
		refused(plain, []api.Rat{bad}, api.ErrShape)
		refused(plain, []api.Rat{bad, bad, bad}, api.ErrShape)
		refused(rows(vec(1, 2), vec(2, 4)), []api.Rat{bad, bad}, api.ErrDependent)
		refused(rows(vec(1, 0), vec(1)), []api.Rat{bad}, api.ErrShape)
		refused(nil, []api.Rat{bad}, api.ErrEmpty)
		refused(rows([]api.Int{power(256, 0)}), []api.Rat{bad}, api.ErrBig)
	}
	refused(plain, nil, api.ErrShape)
	refused(plain, good[:1], api.ErrShape)
	refused(plain, append(good, good...), api.ErrShape)
	refused(rows(vec(1, 0, 0), vec(0, 1, 0)), good, api.ErrShape)
	refused(rows(vec(1, 2), vec(2, 4)), nil, api.ErrDependent)
	refused(rows(nil), nil, api.ErrDependent)
	refused(nil, nil, api.ErrEmpty)
	refused(rows([]api.Int{power(256, 0)}), nil, api.ErrBig)
	refused(rows([]api.Int{power(256, 0)}), good[:1], api.ErrBig)
	refused(slices.Repeat(plain, 7), good, api.ErrBig)
}
