// Package aim reckons, in whole numbers, how far off a target a vector lies at least of which only the last rows' coefficients are chosen.
package aim

import (
	"trammel/api"
	"trammel/scale"
	"trammel/zint"
)

// Aim is data and a target, whose number of the row j is target[j] by den, which is above 0: so all is whole numbers till the end.
type Aim struct {
	g      api.Gso
	target []api.Int
	den    api.Int
}

// Of keeps the data themselves, and nothing of t: both may be, and t has as many numbers as there are rows, or none, which count as noughts.
func Of(g api.Gso, t []api.Rat) *Aim {
	target, den := scale.Whole(t)
	if len(t) == 0 {
		target = make([]api.Int, len(g.L))
	}
	return &Aim{g: g, target: target, den: den}
}

// Rows is how many rows the data have.
func (a *Aim) Rows() int {
	return len(a.g.L)
}

// next is the row whose number would come behind m others.
func (a *Aim) next(m int) int {
	return a.Rows() - 1 - m
}

// shift is den times how far x, the coefficient of the row i, is from the target's.
func (a *Aim) shift(x api.Int, i int) api.Int {
	return zint.Sub(zint.Mul(x, a.den), a.target[i])
}

// Shifts is, of each number of a suffix, how far it is from the target's, all by one denominator.
func (a *Aim) Shifts(x []api.Int) ([]api.Int, api.Int) {
	out := make([]api.Int, len(x))
	for k, n := range x {
		out[k] = a.shift(n, a.next(k))
	}
	return out, a.den
}

// At is the spot of a suffix, which has not more numbers than there are rows.
func (a *Aim) At(x []api.Int) Spot {
	s := Spot{aim: a, rest: zint.Of(1)}
	for _, n := range x {
		s = s.Child(n)
	}
	return s
}
