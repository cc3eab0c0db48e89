package rat_test

import (
	"math/rand"
	"testing"

	"trammel/api"
	"trammel/rat"
)

// RA5, by the package's own calls alone.

// sure is what a call answers that is not to be refused.
func sure(t *testing.T) func(a api.Rat, e api.Errno) api.Rat {
	return func(a api.Rat, e api.Errno) api.Rat {
		t.Helper()
		wantErr(t, "a law", e, api.OK)
		return a
	}
}

// same: two answers that are one rational have the same fields, as both are in lowest terms.
func same(t *testing.T, what string, a, b api.Rat) {
	t.Helper()
	if !alike(a.Num, b.Num) || !alike(a.Den, b.Den) {
		t.Errorf("%s: %v and %v", what, a, b)
	}
}

func TestLaws(t *testing.T) {
	r := rand.New(rand.NewSource(7))
	for range 1000 {
		a, b, c := drawRat(r, 6), drawRat(r, 6), drawRat(r, 6)
		lawsOfField(t, a, b, c)
		lawsOfInverses(t, a, b)
		lawOfFloor(t, a)
		lawOfDist(t, a)
		lawOfText(t, a)
	}
}

func lawsOfField(t *testing.T, a, b, c api.Rat) {
	ok := sure(t)
	same(t, "a + b", ok(rat.Add(a, b)), ok(rat.Add(b, a)))
	same(t, "a b", ok(rat.Mul(a, b)), ok(rat.Mul(b, a)))
	same(t, "a + b + c", ok(rat.Add(ok(rat.Add(a, b)), c)), ok(rat.Add(a, ok(rat.Add(b, c)))))
	same(t, "a b c", ok(rat.Mul(ok(rat.Mul(a, b)), c)), ok(rat.Mul(a, ok(rat.Mul(b, c)))))
	same(t, "a (b + c)", ok(rat.Mul(a, ok(rat.Add(b, c)))), ok(rat.Add(ok(rat.Mul(a, b)), ok(rat.Mul(a, c)))))
}

func lawsOfInverses(t *testing.T, a, b api.Rat) {
	ok := sure(t)
	nought, one := rat.Of(small(0)), rat.Of(small(1))
	lowest := ok(rat.Make(a.Num, a.Den))
	same(t, "a + 0", ok(rat.Add(a, nought)), lowest)
	same(t, "a 1", ok(rat.Mul(a, one)), lowest)
	same(t, "a - a", ok(rat.Sub(a, a)), nought)
	same(t, "(a + b) - b", ok(rat.Sub(ok(rat.Add(a, b)), b)), lowest)
	order, e := rat.Cmp(a, lowest)
	if e != api.OK || order != 0 {
		t.Errorf("%v and its lowest terms: %d %d", a, order, e)
	}
	if len(lowest.Num.Mag) == 0 {
		return
	}
	same(t, "a by a", ok(rat.Div(a, a)), one)
	inverse := ok(rat.Div(one, a))
	same(t, "a times its inverse", ok(rat.Mul(a, inverse)), one)
	same(t, "b by a", ok(rat.Div(b, a)), ok(rat.Mul(b, inverse)))
}

// lawOfFloor: a less Floor(a) is from 0 on and below 1.
func lawOfFloor(t *testing.T, a api.Rat) {
	n, e := rat.Floor(a)
	wantErr(t, "Floor", e, api.OK)
	rest := sure(t)(rat.Sub(a, rat.Of(n)))
	low, _ := rat.Cmp(rest, q(0, 1))
	high, _ := rat.Cmp(rest, q(1, 1))
	if low < 0 || high >= 0 {
		t.Errorf("%v less its floor: %v", a, rest)
	}
}

// lawOfDist: Near is Floor of a and 1/2, Dist is from 0 to 1/2.
func lawOfDist(t *testing.T, a api.Rat) {
	ok := sure(t)
	n, _ := rat.Near(a)
	m, _ := rat.Floor(ok(rat.Add(a, q(1, 2))))
	same(t, "Near", rat.Of(n), rat.Of(m))
	d := ok(rat.Dist(a))
	low, _ := rat.Cmp(d, q(0, 1))
	high, _ := rat.Cmp(d, q(1, 2))
	if low < 0 || high > 0 {
		t.Errorf("Dist(%v): %v", a, d)
	}
}

func lawOfText(t *testing.T, a api.Rat) {
	s, e := rat.Text(a)
	wantErr(t, "Text", e, api.OK)
	back, at, e := rat.Read(s)
	if at != 0 || e != api.OK {
		t.Errorf("Read of Text: %d %d", at, e)
	}
	same(t, "Read of Text", back, sure(t)(rat.Make(a.Num, a.Den)))
}
