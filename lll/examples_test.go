package lll_test

import (
	"testing"

	"trammel/api"
	"trammel/lll"
)

// The examples of the chapter, and of DOC.md.

func TestExamples(t *testing.T) {
	r, e := lll.Reduce(rows(vec(1, 1), vec(0, 2)))
	wantErr(t, "Reduce", e, api.OK)
	wantRows(t, "B", r.B, rows(vec(1, 1), vec(-1, 1)))
	wantRows(t, "U", r.U, rows(vec(1, 0), vec(-1, 1)))
	wantRows(t, "V", r.V, rows(vec(1, 0), vec(1, 1)))
	if r.Swaps != 0 {
		t.Errorf("Swaps: %d", r.Swaps)
	}
	if is, e := lll.Is(rows(vec(1, 1), vec(0, 2))); is || e != api.OK {
		t.Errorf("Is: %v %d", is, e)
	}
	if is, e := lll.Is(rows(vec(2, 1), vec(1, 0))); is || e != api.OK {
		t.Errorf("Is: %v %d", is, e)
	}
}

func TestOneRowIsReduced(t *testing.T) {
	for _, b := range [][][]api.Int{rows(vec(5)), rows(vec(-5)), rows(vec(0, 0, -3)), rows([]api.Int{num(true, 5, 0), num(true, 0)})} {
		r, e := lll.Reduce(b)
		wantErr(t, "Reduce", e, api.OK)
		wantRows(t, "B", r.B, forms(wholes(b)))
		wantRows(t, "U", r.U, unit(1))
		wantRows(t, "V", r.V, unit(1))
		if r.Swaps != 0 {
			t.Errorf("Swaps: %d", r.Swaps)
		}
		if is, e := lll.Is(b); !is || e != api.OK {
			t.Errorf("Is: %v %d", is, e)
		}
		sized, e := lll.Sizes(b)
		wantErr(t, "Sizes", e, api.OK)
		wantRows(t, "Sizes", sized, forms(wholes(b)))
	}
}
