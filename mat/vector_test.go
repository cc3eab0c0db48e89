package mat_test

import (
	"math/big"
	"math/rand"
	"testing"

	"trammel/api"
	"trammel/mat"
)

// The vectors of P4.2 and P4.4.

// product is the sum of the products of two lists of one length.
func product(u, v []bigInt) bigInt {
	sum := new(big.Int)
	for i := range u {
		sum.Add(sum, new(big.Int).Mul(u[i], v[i]))
	}
	return sum
}

// entrywise is what do makes of two lists of one length.
func entrywise(u, v []bigInt, do func(z, x, y bigInt) bigInt) []bigInt {
	out := []bigInt{}
	for i := range u {
		out = append(out, do(new(big.Int), u[i], v[i]))
	}
	return out
}

func checkVectors(t *testing.T, u, v []api.Int) {
	t.Helper()
	n, dotErr := mat.Dot(u, v)
	sum, plusErr := mat.Plus(u, v)
	less, minusErr := mat.Minus(u, v)
	e := api.OK
	if len(u) != len(v) {
		e = api.ErrShape
		u, v = nil, nil
	}
	wantErr(t, "Dot", dotErr, e)
	wantErr(t, "Plus", plusErr, e)
	wantErr(t, "Minus", minusErr, e)
	want(t, "Dot", n, product(bigs(u), bigs(v)))
	wantVector(t, "Plus", sum, entrywise(bigs(u), bigs(v), (*big.Int).Add))
	wantVector(t, "Minus", less, entrywise(bigs(u), bigs(v), (*big.Int).Sub))
}

func TestVectors(t *testing.T) {
	for _, u := range vectors() {
		for _, v := range vectors() {
			checkVectors(t, u, v)
		}
	}
	r := rand.New(rand.NewSource(3))
	for range 500 {
		width := r.Intn(8)
		u, v := drawVector(r, width), drawVector(r, width)
		checkVectors(t, u, v)
		checkVectors(t, u, drawVector(r, width+1))
		checkVectors(t, drawVector(r, width+1), v)
	}
}

func TestNorm(t *testing.T) {
	for _, v := range vectors() {
		want(t, "Norm", mat.Norm(v), product(bigs(v), bigs(v)))
	}
	want(t, "Norm", mat.Norm(vec(3, -4, 0, 12)), big.NewInt(169))
}

func TestTimes(t *testing.T) {
	ks := append(noughts(), vec(1, -1, 2, -7)...)
	ks = append(ks, num(true, 0, 1, 0), num(false, top, top))
	for _, k := range ks {
		for _, v := range vectors() {
			scale := func(z, x, _ bigInt) bigInt { return z.Mul(big1(k), x) }
			wantVector(t, "Times", mat.Times(k, v), entrywise(bigs(v), bigs(v), scale))
		}
	}
}

// order is -1, 0, 1 by the library's numbers.
func order(u, v []bigInt) int {
	for i := range u {
		if i == len(v) {
			return 1
		}
		if c := u[i].Cmp(v[i]); c != 0 {
			return c
		}
	}
	if len(u) < len(v) {
		return -1
	}
	return 0
}

func TestOrder(t *testing.T) {
	for _, u := range vectors() {
		for _, v := range vectors() {
			if n := mat.Order(u, v); n != order(bigs(u), bigs(v)) {
				t.Errorf("Order(%v, %v): %d", u, v, n)
			}
		}
	}
	for _, c := range []struct {
		u, v []api.Int
		n    int
	}{
		{nil, nil, 0}, {nil, vec(), 0}, {nil, vec(-5), -1}, {nil, vec(0), -1}, {vec(1), vec(1, -9), -1}, {vec(2), vec(1, 9), 1},
		{vec(1, 2), vec(1, 3), -1}, {vec(1, -2), vec(1, -3), 1}, {vec(-1, 9), vec(1, 0), -1}, {noughts(), vec(0, 0, 0, 0, 0), 0},
		{[]api.Int{num(true, 0, 1)}, []api.Int{num(true, top)}, -1}, {[]api.Int{num(true, 3, 0)}, vec(-3), 0},
	} {
		if n, m := mat.Order(c.u, c.v), mat.Order(c.v, c.u); n != c.n || m != -c.n {
			t.Errorf("Order(%v, %v): %d %d", c.u, c.v, n, m)
		}
	}
}

func TestLeadAndUpright(t *testing.T) {
	for _, v := range vectors() {
		l := bigs(v)
		lead := -1
		for i := range l {
			if lead < 0 && l[i].Sign() != 0 {
				lead = i
			}
		}
		if n := mat.Lead(v); n != lead {
			t.Errorf("Lead(%v): %d instead of %d", v, n, lead)
		}
		if lead >= 0 && l[lead].Sign() < 0 {
			l = entrywise(l, l, func(z, x, _ bigInt) bigInt { return z.Neg(x) })
		}
		wantVector(t, "Upright", mat.Upright(v), l)
	}
}

func TestLeadAndUprightOfSome(t *testing.T) {
	for _, c := range []struct {
		v, upright []api.Int
		lead       int
	}{
		{nil, nil, -1}, {vec(0), vec(0), -1}, {noughts(), vec(0, 0, 0, 0, 0), -1}, {vec(5, -6), vec(5, -6), 0}, {vec(-5, 6), vec(5, -6), 0},
		{vec(0, 0, -1), vec(0, 0, 1), 2}, {[]api.Int{num(true, 0), num(true, 0, 2, 0)}, []api.Int{{}, num(false, 0, 2)}, 1},
		{[]api.Int{num(true, 0), num(false, 2), num(true, 1)}, vec(0, 2, -1), 1},
	} {
		if n := mat.Lead(c.v); n != c.lead {
			t.Errorf("Lead(%v): %d instead of %d", c.v, n, c.lead)
		}
		wantVector(t, "Upright", mat.Upright(c.v), bigs(c.upright))
	}
}
