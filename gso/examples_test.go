package gso_test

import (
	"math/big"
	"testing"

	"trammel/api"
	"trammel/gso"
)

// The examples of the chapter, and of DOC.md.

func TestExamples(t *testing.T) {
	g, e := gso.Of(rows(vec(1, 1), vec(0, 2)))
	wantErr(t, "Of", e, api.OK)
	wantData(t, "Of", g, api.Gso{D: vec(1, 2, 4), L: rows(nil, vec(2))})
	mu, e := gso.Mu(g, 1, 0)
	wantErr(t, "Mu", e, api.OK)
	want(t, "Mu", mu, big.NewRat(1, 1))
	star, e := gso.Star(g, 1)
	wantErr(t, "Star", e, api.OK)
	want(t, "Star", star, big.NewRat(2, 1))
	h, e := gso.Swap(g, 1)
	wantErr(t, "Swap", e, api.OK)
	wantData(t, "Swap", h, api.Gso{D: vec(1, 4, 4), L: rows(nil, vec(2))})
	n, e := gso.Norm(g, vec(1, -1))
	wantErr(t, "Norm", e, api.OK)
	want(t, "Norm", n, big.NewRat(2, 1))
	_, e = gso.Of(rows(vec(1, 2), vec(2, 4)))
	wantErr(t, "Of", e, api.ErrDependent)
	wantErr(t, "Valid", gso.Valid(rows(vec(1, 2), vec(2, 4))), api.ErrDependent)
	c, d, e := gso.Coords(rows(vec(1, 0)), []api.Rat{q(1, 2), q(3, 1)})
	wantErr(t, "Coords", e, api.OK)
	if len(c) != 1 {
		t.Fatalf("Coords: %v", c)
	}
	want(t, "Coords", c[0], big.NewRat(1, 2))
	want(t, "Coords", d, big.NewRat(9, 1))
}
