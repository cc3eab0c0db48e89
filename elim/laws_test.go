package elim_test

import (
	"math/rand"
	"testing"

	"trammel/api"
	"trammel/elim"
	"trammel/mat"
	"trammel/zint"
)

// P6.5, by the program's own calls alone.

func TestLawsOfDet(t *testing.T) {
	r := rand.New(rand.NewSource(21))
	for _, b := range squares(22) {
		n := len(b)
		d, _ := elim.Det(b)
		other := drawRows(r, n, n, digit)
		f, _ := elim.Det(other)
		both, _ := mat.Product(b, other)
		g, e := elim.Det(both)
		wantErr(t, "Det", e, api.OK)
		want(t, "Det of a product", g, whole(zint.Mul(d, f)))
		if n == 0 {
			continue
		}
		over, _ := mat.Turn(b)
		g, _ = elim.Det(over)
		want(t, "Det turned", g, whole(d))
		i, j := r.Intn(n), r.Intn(n)
		if i == j {
			continue
		}
		c := mat.Form(b)
		c[i], c[j] = c[j], c[i]
		g, _ = elim.Det(c)
		want(t, "Det with two rows exchanged", g, whole(zint.Neg(d)))
	}
}

func TestLawsOfRank(t *testing.T) {
	for _, s := range samples(23) {
		n, e := elim.Rank(s.b)
		wantErr(t, "Rank", e, api.OK)
		over, _ := mat.Turn(s.b)
		m, e := elim.Rank(over)
		wantErr(t, "Rank", e, api.OK)
		null, e := elim.Null(s.b)
		wantErr(t, "Null", e, api.OK)
		if n != m || len(null) != len(s.b)-n {
			t.Errorf("%v: rank %d, turned %d, %d rows of Null", s.b, n, m, len(null))
		}
		lawsOfSteps(t, s.b, n)
		lawsOfSteps(t, null, len(null))
	}
}

// lawsOfSteps: they have the rank, and are their own steps; together with the rows the rank is no greater.
func lawsOfSteps(t *testing.T, b [][]api.Int, rank int) {
	t.Helper()
	steps, heads, e := elim.Steps(b)
	wantErr(t, "Steps", e, api.OK)
	if len(steps) != rank || len(heads) != rank {
		t.Errorf("%v: rank %d, but steps %v, heads %v", b, rank, steps, heads)
	}
	again, _, _ := elim.Steps(steps)
	wantRows(t, "steps of steps", again, steps)
	all, e := elim.Rank(append(mat.Form(b), steps...))
	wantErr(t, "Rank", e, api.OK)
	if all != rank {
		t.Errorf("%v: its steps span more: %v", b, steps)
	}
}

// TestSolveIsCramer: where the determinant is not 0; and of each sum Solve finds by what it was made.
func TestSolveIsCramer(t *testing.T) {
	r := rand.New(rand.NewSource(24))
	regular := 0
	for _, b := range squares(25) {
		made := drawVector(r, len(b), long(2))
		v, _ := mat.Combine(made, b)
		top, d, e := elim.Cramer(b, v)
		wantErr(t, "Cramer", e, api.OK)
		if zint.Sign(d) == 0 {
			continue
		}
		regular++
		x, den, e := elim.Solve(b, v)
		wantErr(t, "Solve", e, api.OK)
		wantVector(t, "Solve", x, mat.Form(rows(made))[0])
		want(t, "Solve", den, whole(zint.Of(1)))
		wantVector(t, "Cramer", mat.Times(den, top), mat.Times(d, x))
		lawOfInverse(t, b, drawVector(r, len(b), digit))
	}
	if regular < 20 {
		t.Errorf("%d with a determinant", regular)
	}
}

// lawOfInverse: v times the inverse solves v.
func lawOfInverse(t *testing.T, b [][]api.Int, v []api.Int) {
	t.Helper()
	x, den, e := elim.Solve(b, v)
	wantErr(t, "Solve", e, api.OK)
	inverse, all, e := elim.Inverse(b)
	wantErr(t, "Inverse", e, api.OK)
	y, _ := mat.Combine(v, inverse)
	wantVector(t, "v times the inverse", mat.Times(den, y), mat.Times(all, x))
}
