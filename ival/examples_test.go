package ival_test

import (
	"testing"

	"trammel/api"
	"trammel/ival"
)

// The chapter's examples, as they are told there, and that of DOC.md.

func TestExamplesOfNumbers(t *testing.T) {
	want(t, "OfInt(2^53 + 1)", ival.OfInt(num(false, 1, 1<<21)), api.OK, span(1<<53, 1<<53+2))
	a, e := ival.OfRat(q(1, 2))
	want(t, "OfRat(1/2)", a, e, span(0.5, 0.5))
	r, ok := ival.Exact(0.5)
	if !ok || !alike(r.Num, small(1)) || !alike(r.Den, small(2)) {
		t.Errorf("Exact(0.5): %v, %v", r, ok)
	}
	if _, ok = ival.Exact(inf); ok {
		t.Error("Exact(+Inf)")
	}
}

func TestExamplesOfSums(t *testing.T) {
	one := span(1, 1)
	a, e := ival.Add(one, one)
	want(t, "Add(1, 1)", a, e, span(ival.Down(2), ival.Up(2)))
	a, e = ival.Mul(span(0, 0), span(-inf, inf))
	want(t, "Mul of 0 and all", a, e, span(ival.Down(0), ival.Up(0)))
	order, sure, e := ival.Cmp(span(1, 2), span(2, 3))
	if order != 0 || sure || e != api.OK {
		t.Errorf("Cmp of what touches: %d, %v, %d", order, sure, e)
	}
	order, sure, e = ival.Cmp(one, one)
	if order != 0 || !sure || e != api.OK {
		t.Errorf("Cmp(1, 1): %d, %v, %d", order, sure, e)
	}
}

func TestNumbersOfErrors(t *testing.T) {
	if e := ival.Valid(span(2, 1)); int(e) != 90 {
		t.Errorf("Valid of 2 to 1: error %d", e)
	}
	if _, e := ival.OfRat(q(1, 0)); int(e) != 30 {
		t.Errorf("OfRat of what may not be: error %d", e)
	}
}
