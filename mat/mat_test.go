package mat_test

import (
	"slices"
	"testing"

	"trammel/api"
	"trammel/mat"
)

// P4.1, and Same and Form of P4.4.

func TestShape(t *testing.T) {
	for _, b := range matrices() {
		tall, wide := len(b), 0
		if tall > 0 {
			wide = len(b[0])
		}
		if height, width, e := mat.Shape(b); height != tall || width != wide || e != api.OK {
			t.Errorf("Shape(%v): %d %d %d", b, height, width, e)
		}
	}
	for _, b := range shapeless() {
		if height, width, e := mat.Shape(b); height != 0 || width != 0 || e != api.ErrShape {
			t.Errorf("Shape(%v): %d %d %d", b, height, width, e)
		}
	}
}

// TestShapeHasNoLimit: beyond MaxSide there is still a shape.
func TestShapeHasNoLimit(t *testing.T) {
	b := slices.Repeat(rows(make([]api.Int, 3*api.MaxSide)), 5*api.MaxSide)
	if height, width, e := mat.Shape(b); height != 5*api.MaxSide || width != 3*api.MaxSide || e != api.OK {
		t.Errorf("Shape: %d %d %d", height, width, e)
	}
}

func TestBits(t *testing.T) {
	for _, b := range append(matrices(), shapeless()...) {
		most := 0
		for _, row := range bigRows(b) {
			for _, n := range row {
				most = max(most, n.BitLen())
			}
		}
		if n := mat.Bits(b); n != most {
			t.Errorf("Bits(%v): %d instead of %d", b, n, most)
		}
	}
	for _, c := range []struct {
		b    [][]api.Int
		bits int
	}{
		{nil, 0}, {rows(nil), 0}, {rows(nil, noughts()), 0}, {rows(vec(1)), 1}, {rows(vec(-1)), 1}, {rows(vec(7, 8), vec(-7, 0)), 4},
		{rows(vec(1), vec(2, -300), nil), 9}, {rows([]api.Int{num(true, 5, 0, 0), num(false, 0, 1)}), 33}, {rows([]api.Int{num(true, top, top, 0)}), 64},
	} {
		if n := mat.Bits(c.b); n != c.bits {
			t.Errorf("Bits(%v): %d instead of %d", c.b, n, c.bits)
		}
	}
}

func TestSame(t *testing.T) {
	all := append(matrices(), shapeless()...)
	for _, a := range all {
		for _, b := range all {
			same := slices.EqualFunc(bigRows(a), bigRows(b), func(u, v []bigInt) bool { return slices.EqualFunc(u, v, equal) })
			if mat.Same(a, b) != same {
				t.Errorf("Same(%v, %v): %v", a, b, !same)
			}
		}
	}
}

func TestSameOfSome(t *testing.T) {
	for _, c := range []struct {
		a, b [][]api.Int
		same bool
	}{
		{nil, rows(), true}, {nil, rows(nil), false}, {rows(nil), rows(vec()), true}, {rows(nil), rows(nil, nil), false},
		{rows(vec(1, 2)), rows(vec(1, 2)), true}, {rows(vec(1, 2)), rows(vec(1), vec(2)), false}, {rows(vec(1, 2)), rows(vec(1)), false},
		{rows(vec(1), vec(2, 3)), rows(vec(1, 2), vec(3)), false}, {rows(vec(1), vec(2, 3)), rows(vec(1), vec(2, 3)), true},
		{rows(vec(1)), rows(vec(-1)), false}, {rows(vec(1), vec(2)), rows(vec(1), vec(3)), false},
		{rows(noughts()), rows(vec(0, 0, 0, 0, 0)), true}, {rows([]api.Int{num(true, 3, 0, 0)}), rows(vec(-3)), true},
	} {
		if mat.Same(c.a, c.b) != c.same || mat.Same(c.b, c.a) != c.same {
			t.Errorf("Same(%v, %v): %v", c.a, c.b, !c.same)
		}
	}
}

// TestForm: rows of unlike lengths stay so.
func TestForm(t *testing.T) {
	for _, b := range append(matrices(), shapeless()...) {
		wantRows(t, "Form", mat.Form(b), bigRows(b))
	}
	loose := rows([]api.Int{num(true, 0, 0), num(false, 1, 0)}, nil, []api.Int{num(true, 0, 7, 0, 0)})
	wantRows(t, "Form", mat.Form(loose), bigRows(loose))
}
