package rat

import (
	"trammel/api"
	"trammel/zint"
)

// Floor: the greatest whole number that is not above a.
func Floor(a api.Rat) (api.Int, api.Errno) {
	if !mayBe(a) {
		return api.Int{}, api.ErrRat
	}
	q, _, e := zint.Floor(a.Num, a.Den)
	return q, e
}

// Near: the whole number nearest to a, of two as near the greater one.
func Near(a api.Rat) (api.Int, api.Errno) {
	if !mayBe(a) {
		return api.Int{}, api.ErrRat
	}
	return zint.Near(a.Num, a.Den)
}

// Dist: how far a is from Near(a).
func Dist(a api.Rat) (api.Rat, api.Errno) {
	n, e := Near(a)
	if e != api.OK {
		return api.Rat{}, e
	}
	d, e := Sub(a, Of(n))
	return api.Rat{Num: zint.Abs(d.Num), Den: d.Den}, e
}
