package mat_test

import (
	"math"
	"math/big"
	"math/rand"
	"testing"

	"trammel/api"
	"trammel/mat"
)

// Combine of P4.2, and P4.3.

// column is the entries at a place of all rows.
func column(b [][]api.Int, j int) []bigInt {
	out := []bigInt{}
	for _, row := range b {
		out = append(out, big1(row[j]))
	}
	return out
}

// columns is all of them; width is how many entries a row has.
func columns(b [][]api.Int, width int) [][]bigInt {
	out := [][]bigInt{}
	for j := range width {
		out = append(out, column(b, j))
	}
	return out
}

// products is the matrix of the products of all lists of u with all of v.
func products(u, v [][]bigInt) [][]bigInt {
	out := [][]bigInt{}
	for _, x := range u {
		row := []bigInt{}
		for _, y := range v {
			row = append(row, product(x, y))
		}
		out = append(out, row)
	}
	return out
}

// checkProducts looks at all calls with matrices of these shapes.
func checkProducts(t *testing.T, a [][]api.Int, b [][]api.Int, width int) {
	t.Helper()
	cols := columns(b, width)
	out, e := mat.Product(a, b)
	wantErr(t, "Product", e, api.OK)
	wantRows(t, "Product", out, products(bigRows(a), cols))
	for i := range a {
		row, e := mat.Combine(a[i], b)
		wantErr(t, "Combine", e, api.OK)
		wantVector(t, "Combine", row, products(bigRows(a[i:i+1]), cols)[0])
	}
	turned, e := mat.Turn(b)
	wantErr(t, "Turn", e, api.OK)
	wantRows(t, "Turn", turned, cols)
	gram, e := mat.Gram(b)
	wantErr(t, "Gram", e, api.OK)
	wantRows(t, "Gram", gram, products(bigRows(b), bigRows(b)))
}

func TestProducts(t *testing.T) {
	r := rand.New(rand.NewSource(4))
	for range 60 {
		for inner := range 5 {
			height, width := r.Intn(5), r.Intn(5)
			if inner == 0 {
				// No rows have no entries either.
				width = 0
			}
			checkProducts(t, drawRows(r, height, inner), drawRows(r, inner, width), width)
		}
	}
	checkProducts(t, drawRows(r, 3, 70), drawRows(r, 70, 66), 66)
	checkProducts(t, drawRows(r, 66, 2), drawRows(r, 2, 2), 2)
}

func TestProductsWithoutRows(t *testing.T) {
	for _, c := range []struct{ a, b, product [][]api.Int }{
		{nil, nil, nil},
		{nil, rows(nil), nil},
		{nil, rows(vec(1, 2), vec(3, 4)), nil},
		{rows(nil), nil, rows(nil)},
		{rows(nil, nil, nil), nil, rows(nil, nil, nil)},
		{rows(vec(1), vec(2)), rows(nil), rows(nil, nil)},
		{rows(vec(1, 2)), rows(nil, nil), rows(nil)},
	} {
		out, e := mat.Product(c.a, c.b)
		wantErr(t, "Product", e, api.OK)
		wantRows(t, "Product", out, bigRows(c.product))
	}
	for _, b := range [][][]api.Int{nil, {nil}, {nil, nil}} {
		out, e := mat.Turn(b)
		wantErr(t, "Turn", e, api.OK)
		wantRows(t, "Turn", out, nil)
		row, e := mat.Combine(make([]api.Int, len(b)), b)
		wantErr(t, "Combine", e, api.OK)
		wantVector(t, "Combine", row, nil)
	}
	out, e := mat.Gram(rows(nil, nil))
	wantErr(t, "Gram", e, api.OK)
	wantRows(t, "Gram", out, bigRows(rows(vec(0, 0), vec(0, 0))))
}

func TestCombineRefuses(t *testing.T) {
	refused := func(x []api.Int, b [][]api.Int) {
		t.Helper()
		out, e := mat.Combine(x, b)
		wantErr(t, "Combine", e, api.ErrShape)
		wantVector(t, "Combine", out, nil)
	}
	for _, b := range shapeless() {
		refused(make([]api.Int, len(b)), b)
		refused(nil, b)
	}
	for _, b := range matrices() {
		refused(make([]api.Int, len(b)+1), b)
		if len(b) > 0 {
			refused(make([]api.Int, len(b)-1), b)
		}
	}
}

func TestProductRefuses(t *testing.T) {
	refused := func(a, b [][]api.Int) {
		t.Helper()
		out, e := mat.Product(a, b)
		wantErr(t, "Product", e, api.ErrShape)
		wantRows(t, "Product", out, nil)
	}
	for _, bad := range shapeless() {
		for _, b := range append(matrices(), shapeless()...) {
			refused(bad, b)
			refused(b, bad)
		}
		out, e := mat.Turn(bad)
		wantErr(t, "Turn", e, api.ErrShape)
		wantRows(t, "Turn", out, nil)
		out, e = mat.Gram(bad)
		wantErr(t, "Gram", e, api.ErrShape)
		wantRows(t, "Gram", out, nil)
	}
	refused(rows(vec(1, 2)), rows(vec(1, 2)))
	refused(rows(vec(1)), rows(vec(1, 2), vec(3, 4)))
	refused(rows(vec(1)), nil)
	refused(rows(nil), rows(nil))
	refused(rows(nil), rows(vec(1)))
}

func TestUnit(t *testing.T) {
	for n := range api.MaxSide + 1 {
		out, e := mat.Unit(n)
		wantErr(t, "Unit", e, api.OK)
		l := [][]bigInt{}
		for i := range n {
			row := []bigInt{}
			for j := range n {
				row = append(row, big.NewInt(0))
				if i == j {
					row[j] = big.NewInt(1)
				}
			}
			l = append(l, row)
		}
		wantRows(t, "Unit", out, l)
	}
	for n, e := range map[int]api.Errno{-1: api.ErrArg, -64: api.ErrArg, math.MinInt: api.ErrArg, 65: api.ErrLong, 1 << 40: api.ErrLong, math.MaxInt: api.ErrLong} {
		out, got := mat.Unit(n)
		wantErr(t, "Unit", got, e)
		wantRows(t, "Unit", out, nil)
	}
}
