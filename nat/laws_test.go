package nat_test

import (
	"math/rand"
	"slices"
	"testing"

	"trammel/api"
	"trammel/nat"
)

// NA6, by the package's own calls alone.

func TestLaws(t *testing.T) {
	r := rand.New(rand.NewSource(5))
	for range 400 {
		a, b, c := draw(r, r.Intn(12)), draw(r, r.Intn(12)), draw(r, r.Intn(12))
		same(t, "a + b", nat.Add(a, b), nat.Add(b, a))
		same(t, "a b", nat.Mul(a, b), nat.Mul(b, a))
		same(t, "a + b + c", nat.Add(nat.Add(a, b), c), nat.Add(a, nat.Add(b, c)))
		same(t, "a b c", nat.Mul(nat.Mul(a, b), c), nat.Mul(a, nat.Mul(b, c)))
		same(t, "a (b + c)", nat.Mul(a, nat.Add(b, c)), nat.Add(nat.Mul(a, b), nat.Mul(a, c)))
		lawOfDiv(t, a, b)
		lawOfGcd(t, a, b, c)
		back, at, e := nat.Read(nat.Text(a))
		if at != 0 || e != api.OK {
			t.Errorf("Read of Text: %d %d", at, e)
		}
		same(t, "Read of Text", back, nat.Norm(a))
	}
}

func same(t *testing.T, what string, a, b []uint32) {
	t.Helper()
	if !slices.Equal(a, b) {
		t.Errorf("%s: %v and %v", what, a, b)
	}
}

func lawOfDiv(t *testing.T, a, b []uint32) {
	q, r, e := nat.Div(a, b)
	if e == api.ErrDiv && nat.Bits(b) == 0 {
		return
	}
	if e != api.OK || nat.Cmp(r, b) >= 0 {
		t.Errorf("Div(%v, %v): the rest %v, error %d", a, b, r, e)
	}
	same(t, "q b + r", nat.Add(nat.Mul(q, b), r), nat.Norm(a))
}

// lawOfGcd: c divides both of a c and b c, so it divides what they have in common, which divides both.
func lawOfGcd(t *testing.T, a, b, c []uint32) {
	x, y := nat.Mul(a, c), nat.Mul(b, c)
	g := nat.Gcd(x, y)
	divides(t, c, g)
	divides(t, g, x)
	divides(t, g, y)
}

// divides: 0 divides 0 alone.
func divides(t *testing.T, a, b []uint32) {
	t.Helper()
	if nat.Bits(a) == 0 {
		if nat.Bits(b) != 0 {
			t.Errorf("0 does not divide %v", b)
		}
		return
	}
	if _, r, e := nat.Div(b, a); e != api.OK || len(r) != 0 {
		t.Errorf("%v does not divide %v", a, b)
	}
}
