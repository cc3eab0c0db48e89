package elim_test

import (
	"math/big"
	"slices"
	"testing"

	"trammel/api"
	"trammel/elim"
)

// The examples of the chapter.

func TestExamplesOfSteps(t *testing.T) {
	d, e := elim.Det(rows(vec(2, 1), vec(4, 3)))
	wantErr(t, "Det", e, api.OK)
	want(t, "Det", d, big.NewInt(2))
	d, e = elim.Det(nil)
	wantErr(t, "Det", e, api.OK)
	want(t, "Det of no rows", d, big.NewInt(1))
	n, e := elim.Rank(rows(vec(1, 2), vec(2, 4)))
	wantErr(t, "Rank", e, api.OK)
	if n != 1 {
		t.Errorf("Rank: %d", n)
	}
	b, heads, e := elim.Steps(rows(vec(2, 4, 6), vec(1, 2, 4)))
	wantErr(t, "Steps", e, api.OK)
	wantRows(t, "Steps", b, rows(vec(1, 2, 0), vec(0, 0, 1)))
	if !slices.Equal(heads, []int{0, 2}) {
		t.Errorf("Steps: %v", heads)
	}
}

func TestExamplesOfSolutions(t *testing.T) {
	x, d, e := elim.Solve(rows(vec(2, 0), vec(0, 3)), vec(1, 1))
	wantErr(t, "Solve", e, api.OK)
	wantVector(t, "Solve", x, vec(3, 2))
	want(t, "Solve", d, big.NewInt(6))
	_, _, e = elim.Solve(rows(vec(1, 1)), vec(1, 2))
	wantErr(t, "Solve", e, api.ErrNone)
	b, d, e := elim.Inverse(rows(vec(2, 0), vec(0, 4)))
	wantErr(t, "Inverse", e, api.OK)
	wantRows(t, "Inverse", b, rows(vec(2, 0), vec(0, 1)))
	want(t, "Inverse", d, big.NewInt(4))
	b, e = elim.Null(rows(vec(1, 2), vec(2, 4), vec(0, 1)))
	wantErr(t, "Null", e, api.OK)
	wantRows(t, "Null", b, rows(vec(2, -1, 0)))
	x, e = elim.Minors(rows(vec(2, 1), vec(1, 2)))
	wantErr(t, "Minors", e, api.OK)
	wantVector(t, "Minors", x, vec(2, 3))
	x, d, e = elim.Cramer(rows(vec(1, 2), vec(2, 4)), vec(1, 0))
	wantErr(t, "Cramer", e, api.OK)
	wantVector(t, "Cramer", x, vec(4, -2))
	want(t, "Cramer", d, new(big.Int))
}
