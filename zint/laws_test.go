package zint_test

import (
	"math/rand"
	"testing"

	"trammel/api"
	"trammel/zint"
)

// P2.7, by the package's own calls alone.

func TestLaws(t *testing.T) {
	r := rand.New(rand.NewSource(8))
	for range 2000 {
		a, b, c := draw(r, r.Intn(10)), draw(r, r.Intn(10)), draw(r, r.Intn(10))
		same(t, "(a + b) - b", zint.Sub(zint.Add(a, b), b), a)
		same(t, "a (b + c)", zint.Mul(a, zint.Add(b, c)), zint.Add(zint.Mul(a, b), zint.Mul(a, c)))
		same(t, "Sum", zint.Sum([]api.Int{a, b, c}), zint.Add(zint.Add(a, b), c))
		lawOfFloor(t, a, b)
		lawOfNear(t, a, b)
		lawOfBezout(t, a, b)
		back, at, e := zint.Read(zint.Text(a))
		if at != 0 || e != api.OK {
			t.Errorf("Read of Text: %d %d", at, e)
		}
		same(t, "Read of Text", back, a)
	}
}

// same: the first one is an answer, and so in one form.
func same(t *testing.T, what string, a, b api.Int) {
	t.Helper()
	if !alike(a, zint.Form(b)) {
		t.Errorf("%s: %v and %v", what, a, b)
	}
}

func lawOfFloor(t *testing.T, a, b api.Int) {
	q, r, e := zint.Floor(a, b)
	if e == api.ErrDiv && zint.Sign(b) == 0 {
		return
	}
	same(t, "q b + r", zint.Add(zint.Mul(q, b), r), a)
	if e != api.OK || zint.Sign(r)*zint.Sign(b) < 0 || zint.Compare(zint.Abs(r), zint.Abs(b)) >= 0 {
		t.Errorf("Floor(%v, %v): the rest %v, error %d", a, b, r, e)
	}
}

// lawOfNear: twice what is lacking is at most the divisor.
func lawOfNear(t *testing.T, a, b api.Int) {
	q, e := zint.Near(a, b)
	if e == api.ErrDiv && zint.Sign(b) == 0 {
		return
	}
	lack := zint.Abs(zint.Sub(a, zint.Mul(q, b)))
	if e != api.OK || zint.Compare(zint.Add(lack, lack), zint.Abs(b)) > 0 {
		t.Errorf("Near(%v, %v): %v, error %d", a, b, q, e)
	}
}

func lawOfBezout(t *testing.T, a, b api.Int) {
	g, x, y := zint.Bezout(a, b)
	same(t, "x a + y b", zint.Add(zint.Mul(x, a), zint.Mul(y, b)), g)
	same(t, "Gcd", zint.Gcd(a, b), g)
	if zint.Sign(g) == 0 {
		return
	}
	part, e := zint.Exact(b, g)
	if e != api.OK || zint.Sign(part) != 0 && (zint.Sign(x) < 0 || zint.Compare(x, zint.Abs(part)) >= 0) {
		t.Errorf("Bezout(%v, %v): %v %v %v", a, b, g, x, y)
	}
}
