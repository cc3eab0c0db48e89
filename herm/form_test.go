package herm_test

import (
	"math/rand"
	"slices"
	"testing"

	"trammel/api"
	"trammel/elim"
	"trammel/herm"
	"trammel/mat"
)

// P8.1, and Kernel of P8.4, which comes with the transform.

// checkForm holds Form against its words, without another way to it: the transform shows that it is of the same lattice.
func checkForm(t *testing.T, b [][]api.Int, width int) {
	t.Helper()
	h, u, e := herm.Form(b)
	wantErr(t, "Form", e, api.OK)
	if len(h) != len(b) || len(u) != len(b) || !isForm(h, width) {
		t.Fatalf("Form(%v): %v by %v", b, h, u)
	}
	p, e := mat.Product(u, b)
	wantErr(t, "Form's transform", e, api.OK)
	wantRows(t, "Form, by its transform", p, h)
	if one, e := elim.Unimodular(u); !one || e != api.OK {
		t.Errorf("Form(%v): a transform %v of another determinant", b, u)
	}
	above := slices.DeleteFunc(slices.Clone(h), func(row []api.Int) bool { return lead(row) == width })
	wantRows(t, "Basis", sureRows(t)(herm.Basis(b)), above)
	checkKernel(t, b, u[len(above):])
}

// checkKernel: the last rows of a transform make nought of b, and all that does is a sum of them.
func checkKernel(t *testing.T, b, last [][]api.Int) {
	t.Helper()
	k := sureRows(t)(herm.Kernel(b))
	if len(k) != len(last) || !isForm(k, len(b)) {
		t.Errorf("Kernel(%v): %v", b, k)
	}
	wantIs(t, "Same of Kernel and a transform's rows", is(t)(herm.Same(k, last)), true)
}

func TestFormsOfSamples(t *testing.T) {
	for _, s := range samples(1) {
		h, _ := hermite(s.b, s.width)
		got, _, e := herm.Form(s.b)
		wantErr(t, "Form", e, api.OK)
		wantRows(t, "Form", got, h)
		wantRows(t, "Basis", sureRows(t)(herm.Basis(s.b)), basis(s.b, s.width))
		wantRows(t, "Kernel", sureRows(t)(herm.Kernel(s.b)), kernel(s.b, s.width))
		checkForm(t, s.b, s.width)
	}
}

func TestFormsOfAllSmall(t *testing.T) {
	one := func(b [][]api.Int) {
		width := len(b[0])
		h, _ := hermite(b, width)
		got, _, _ := herm.Form(b)
		wantRows(t, "Form", got, h)
		wantRows(t, "Kernel", sureRows(t)(herm.Kernel(b)), kernel(b, width))
		checkForm(t, b, width)
	}
	boxes(1, 1, 9, one)
	boxes(1, 2, 3, one)
	boxes(2, 1, 6, one)
	boxes(3, 1, 3, one)
	boxes(2, 2, 2, one)
	boxes(3, 2, 1, one)
	boxes(2, 3, 1, one)
}

// TestFormsAtTheEdges: no rows, rows without an entry, rows of nought, and the same row many times.
func TestFormsAtTheEdges(t *testing.T) {
	for _, b := range [][][]api.Int{nil, rows(), rows(nil), rows(nil, nil), blank(64, 0), blank(64, 64), blank(1, 64), blank(64, 1), unit(64), slices.Repeat(rows(vec(0, -6, 4)), 64), slices.Repeat(rows(make([]api.Int, 64)), 2)} {
		width := 0
		if len(b) > 0 {
			width = len(b[0])
		}
		checkForm(t, b, width)
	}
	h, u, e := herm.Form(rows(nil, nil))
	wantErr(t, "Form", e, api.OK)
	wantRows(t, "Form of rows without an entry", h, rows(nil, nil))
	wantIs(t, "its transform", is(t)(elim.Unimodular(u)), true)
	wantRows(t, "Kernel of rows without an entry", sureRows(t)(herm.Kernel(rows(nil, nil))), unit(2))
	wantRows(t, "Kernel of no rows", sureRows(t)(herm.Kernel(nil)), nil)
	wantRows(t, "Kernel of noughts", sureRows(t)(herm.Kernel(blank(3, 2))), unit(3))
	wantRows(t, "Basis of no rows", sureRows(t)(herm.Basis(nil)), nil)
	wantRows(t, "Basis of rows without an entry", sureRows(t)(herm.Basis(rows(nil))), nil)
}

// TestFormsAtTheLimit: as many rows and entries as may be, of all ranks.
func TestFormsAtTheLimit(t *testing.T) {
	r := rand.New(rand.NewSource(2))
	checkForm(t, drawRows(r, 64, 64, digit), 64)
	checkForm(t, drawRows(r, 64, 64, even), 64)
	checkForm(t, drawRows(r, 64, 9, long(2)), 9)
	checkForm(t, drawRows(r, 9, 64, long(2)), 64)
	checkForm(t, drawRows(r, 64, 1, long(8)), 1)
	checkForm(t, drawRows(r, 1, 64, long(8)), 64)
	checkForm(t, thin(r, 64, 64, 17, digit), 64)
	checkForm(t, thin(r, 64, 64, 50, even), 64)
	checkForm(t, drawRows(r, 6, 6, long(64)), 6)
}

// TestSameIsOfLattices: a basis in other rows is the same, one with a row changed is not.
func TestSameIsOfLattices(t *testing.T) {
	r := rand.New(rand.NewSource(3))
	for _, s := range samples(4) {
		if len(s.b) == 0 {
			continue
		}
		other := append(twisted(r, s.b, 20), make([]api.Int, s.width))
		wantIs(t, "Same", is(t)(herm.Same(s.b, other)), true)
		wantIs(t, "Same", is(t)(herm.Same(other, s.b)), true)
	}
	for _, c := range couples(5) {
		wantIs(t, "Same", is(t)(herm.Same(c.a, c.b)), alikeRows(basis(c.a, c.width), basis(c.b, c.width)))
	}
	none := rows(vec(0, 0), vec(0, 0))
	for _, c := range []struct {
		a, b [][]api.Int
		is   bool
	}{
		{nil, nil, true}, {nil, none, true}, {none, rows(), true}, {rows(nil), nil, true}, {rows(nil), rows(nil, nil), true}, {blank(64, 0), nil, true},
		{nil, unit(2), false}, {unit(2), none, false}, {unit(1), nil, false},
		{rows(vec(2, 0)), rows(vec(-2, 0)), true}, {rows(vec(2, 0)), rows(vec(1, 0)), false}, {rows(vec(6), vec(10), vec(15)), rows(vec(1)), true},
	} {
		wantIs(t, "Same", is(t)(herm.Same(c.a, c.b)), c.is)
	}
}
