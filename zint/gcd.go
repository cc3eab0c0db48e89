package zint

import (
	"trammel/api"
	"trammel/euclid"
	"trammel/nat"
)

// Gcd: the greatest number that divides both, 0 or above.
func Gcd(a, b api.Int) api.Int {
	return signed(false, nat.Gcd(a.Mag, b.Mag))
}

// Bezout: g = Gcd(a, b), x and y with x * a + y * b = g; x the least from 0 on, if b is not 0, else the sign of a.
func Bezout(a, b api.Int) (api.Int, api.Int, api.Int) {
	if Sign(b) == 0 {
		return Abs(a), Of(int64(Sign(a))), api.Int{}
	}
	m := Abs(b)
	_, rest, _ := Floor(a, m)
	g, x := common(m, rest)
	y, _ := Exact(Sub(g, Mul(x, a)), b)
	return g, x, y
}

// common is the g that divides m and n, and the least x from 0 on with which x * n is g but for a multiple of m; n is from 0 on to below m.
func common(m, n api.Int) (api.Int, api.Int) {
	w := row{a: m.Mag, b: n.Mag, y: []uint32{1}, minus: true}
	for len(w.b) > 0 {
		w.next()
	}
	// At the row's end y is m / g: whatever goes as x, goes but for a multiple of it.
	_, x, _ := Floor(signed(w.minus, w.x), signed(false, w.y))
	return signed(false, w.a), x
}

// row is two neighbours of Euclid's row of rests, the greater one first, and the magnitudes of what n is taken times in them, but for multiples of m. Of those one has a minus: that of a, if minus is true.
type row struct {
	a, b  []uint32
	x, y  []uint32
	minus bool
}

// next goes on by many places, if the highest bits tell that many quotients, else by one.
func (w *row) next() {
	if len(w.b) >= euclid.Least {
		if s, ok := euclid.Look(w.a, w.b); ok {
			w.a, w.b = s.Rests(w.a, w.b)
			w.x, w.y = s.Shares(w.x, w.y)
			w.minus = w.minus != s.Odd
			return
		}
	}
	q, r, _ := nat.Div(w.a, w.b)
	w.a, w.b = w.b, r
	w.x, w.y = w.y, nat.Add(w.x, nat.Mul(q, w.y))
	w.minus = !w.minus
}
