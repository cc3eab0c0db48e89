package mat_test

import (
	"testing"

	"trammel/api"
	"trammel/mat"
)

// The chapter's examples, as they are told there.

func TestExamplesOfShapes(t *testing.T) {
	for _, c := range []struct {
		b             [][]api.Int
		height, width int
		e             api.Errno
	}{
		{rows(vec(1, 2), vec(3)), 0, 0, api.ErrShape},
		{nil, 0, 0, api.OK},
		{rows(nil, nil), 2, 0, api.OK},
	} {
		if height, width, e := mat.Shape(c.b); height != c.height || width != c.width || e != c.e {
			t.Errorf("Shape(%v): %d %d %d", c.b, height, width, e)
		}
	}
	if n := mat.Bits(rows(vec(-8, 1))); n != 4 {
		t.Errorf("Bits: %d", n)
	}
}

func TestExamplesOfProducts(t *testing.T) {
	n, e := mat.Dot(vec(1, 2), vec(3, -4))
	wantErr(t, "Dot", e, api.OK)
	want(t, "Dot", n, big1(vec(-5)[0]))
	v, e := mat.Combine(vec(2, -1), rows(vec(1, 0, 3), vec(4, 4, 4)))
	wantErr(t, "Combine", e, api.OK)
	wantVector(t, "Combine", v, bigs(vec(-2, -4, 2)))
}

func TestExamplesOfTexts(t *testing.T) {
	b, at, e := mat.Read("1 2; 3  -4 ")
	if at != 0 || e != api.OK {
		t.Errorf("Read: %d %d", at, e)
	}
	wantRows(t, "Read", b, bigRows(rows(vec(1, 2), vec(3, -4))))
	if s := mat.Text(b); s != "1 2; 3 -4" {
		t.Errorf("Text: %q", s)
	}
	b, at, e = mat.Read(";")
	if at != 0 || e != api.OK {
		t.Errorf("Read: %d %d", at, e)
	}
	wantRows(t, "Read", b, bigRows(rows(nil, nil)))
	for _, s := range []string{"1 x; 2", "1;-0"} {
		if b, at, e := mat.Read(s); len(b) != 0 || at != 2 || e != api.ErrForm {
			t.Errorf("Read(%q): %v %d %d", s, b, at, e)
		}
	}
}

func TestExamplesOfOrder(t *testing.T) {
	wantVector(t, "Upright", mat.Upright(vec(0, -2, 3)), bigs(vec(0, 2, -3)))
	if n := mat.Lead(vec(0, -2, 3)); n != 1 {
		t.Errorf("Lead: %d", n)
	}
	if n := mat.Order(vec(1, 2), vec(1)); n != 1 {
		t.Errorf("Order: %d", n)
	}
}

func TestNumbersOfErrors(t *testing.T) {
	_, arg := mat.Unit(-1)
	_, long := mat.Unit(65)
	_, _, form := mat.Read("x")
	_, shape := mat.Dot(vec(1), nil)
	for i, e := range []api.Errno{arg, long, form, shape} {
		if n := []int{1, 2, 4, 8}[i]; int(e) != n {
			t.Errorf("error %d instead of %d", e, n)
		}
	}
}
