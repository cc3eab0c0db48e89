package gso_test

import (
	"math/rand"
	"testing"

	"trammel/api"
	"trammel/gso"
	"trammel/mat"
	"trammel/rat"
	"trammel/zint"
)

// GS6, by the program's own calls alone, over many changes one behind the other.

// state is a basis, its data, and the transform that made it of the first one.
type state struct {
	b, u [][]api.Int
	g    api.Gso
}

// change grows a row or exchanges two, in the rows and in the data.
func (s *state) change(t *testing.T, r *rand.Rand) {
	t.Helper()
	i := 1 + r.Intn(len(s.b)-1)
	e := api.OK
	if r.Intn(2) == 0 {
		s.g, e = gso.Swap(s.g, i)
		for _, m := range [][][]api.Int{s.b, s.u} {
			m[i-1], m[i] = m[i], m[i-1]
		}
	} else {
		j, q := r.Intn(i), digit(r)
		s.g, e = gso.AddRow(s.g, i, j, q)
		for _, m := range [][][]api.Int{s.b, s.u} {
			m[i], _ = mat.Plus(m[i], mat.Times(q, m[j]))
		}
	}
	wantErr(t, "a change", e, api.OK)
}

func TestLawsOverManyChanges(t *testing.T) {
	r := rand.New(rand.NewSource(51))
	for range 60 {
		n := 2 + r.Intn(4)
		first := drawBasis(r, n, n+r.Intn(3), digit)
		u, _ := mat.Unit(n)
		s := state{b: mat.Form(first), u: u}
		s.g, _ = gso.Of(first)
		last := s.g.D[n]
		for range 25 {
			s.change(t, r)
			of, e := gso.Of(s.b)
			wantErr(t, "Of", e, api.OK)
			wantData(t, "of the changed rows", s.g, of)
			if zint.Compare(s.g.D[n], last) != 0 {
				t.Errorf("the last D was %v, and is %v", last, s.g.D[n])
			}
			lawOfNorm(t, s, drawVector(r, n, digit))
			lawOfTheLattice(t, s, first)
		}
	}
}

// lawOfNorm: Norm is the dot product of the sum with itself.
func lawOfNorm(t *testing.T, s state, x []api.Int) {
	t.Helper()
	n, e := gso.Norm(s.g, x)
	wantErr(t, "Norm", e, api.OK)
	v, _ := mat.Combine(x, s.b)
	want(t, "Norm", n, ratOf(whole(mat.Norm(v))))
}

// lawOfTheLattice: the rows are whole multiples of the first ones, and these of them.
func lawOfTheLattice(t *testing.T, s state, first [][]api.Int) {
	t.Helper()
	back, _ := mat.Product(s.u, first)
	if !mat.Same(back, s.b) {
		t.Errorf("%v is not the transform of %v", s.b, first)
	}
	for _, row := range first {
		target := []api.Rat{}
		for _, a := range row {
			target = append(target, rat.Of(a))
		}
		c, d, e := gso.Coords(s.b, target)
		wantErr(t, "Coords", e, api.OK)
		if zint.Sign(d.Num) != 0 {
			t.Errorf("%v is off the span by %v", row, d)
		}
		for _, a := range c {
			if zint.Compare(a.Den, zint.Of(1)) != 0 {
				t.Errorf("%v is not in the lattice: %v", row, c)
			}
		}
	}
}

// TestStarsMakeTheLastD: the product of all squared lengths is the last D.
func TestStarsMakeTheLastD(t *testing.T) {
	for _, b := range bases(52) {
		g, _ := gso.Of(b)
		product := rat.Of(zint.Of(1))
		for i := range b {
			s, e := gso.Star(g, i)
			wantErr(t, "Star", e, api.OK)
			product, _ = rat.Mul(product, s)
		}
		want(t, "the product", product, ratOf(whole(g.D[len(b)])))
	}
}
