package herm_test

import (
	"math/big"
	"testing"

	"trammel/api"
	"trammel/elim"
	"trammel/herm"
)

// The examples of the chapter.

func TestExamplesOfForms(t *testing.T) {
	b := rows(vec(2, 4), vec(3, 5))
	h, u, e := herm.Form(b)
	wantErr(t, "Form", e, api.OK)
	wantRows(t, "Form", h, rows(vec(1, 1), vec(0, 2)))
	wantRows(t, "Form, by its transform", product(u, b, 2), h)
	wantIs(t, "Form's transform", is(t)(elim.Unimodular(u)), true)
	wantRows(t, "Basis", sureRows(t)(herm.Basis(rows(vec(2), vec(3)))), rows(vec(1)))
	wantRows(t, "Basis", sureRows(t)(herm.Basis(rows(vec(0, 0)))), nil)
}

func TestExamplesOfMembers(t *testing.T) {
	b := rows(vec(2, 0), vec(1, 1))
	wantIs(t, "Member", is(t)(herm.Member(b, vec(1, 0))), false)
	wantRows(t, "Basis", sureRows(t)(herm.Basis(b)), rows(vec(1, 1), vec(0, 2)))
	wantVector(t, "Rest", sure(t)(herm.Rest(b, vec(1, 0))), vec(0, 1))
	n, e := herm.Index(diag(2, 3), unit(2))
	wantErr(t, "Index", e, api.OK)
	want(t, "Index", n, big.NewInt(6))
}

func TestExamplesOfTwo(t *testing.T) {
	wantRows(t, "Meet", sureRows(t)(herm.Meet(rows(vec(2)), rows(vec(3)))), rows(vec(6)))
	wantRows(t, "Join", sureRows(t)(herm.Join(rows(vec(2)), rows(vec(3)))), rows(vec(1)))
	wantRows(t, "Kernel", sureRows(t)(herm.Kernel(rows(vec(2), vec(4)))), rows(vec(2, -1)))
	wantVector(t, "Smith", sure(t)(herm.Smith(diag(2, 3))), vec(1, 6))
}

// TestExampleOfAll is the fourth of the examples of the whole.
func TestExampleOfAll(t *testing.T) {
	h, _, e := herm.Form(rows(vec(2, 4), vec(3, 5)))
	wantErr(t, "Form", e, api.OK)
	wantRows(t, "Form", h, rows(vec(1, 1), vec(0, 2)))
}
