package filter

import (
	"trammel/aim"
	"trammel/api"
	"trammel/gso"
	"trammel/rat"
	"trammel/scale"
)

// Norm: the norm of a suffix; ErrGso, ErrShape, ErrRat.
func Norm(g api.Gso, t []api.Rat, x []api.Int) (api.Rat, api.Errno) {
	if e := refused(g, t, x); e != api.OK {
		return api.Rat{}, e
	}
	norm := aim.Of(g, t).At(x).Norm()
	return rat.Make(norm.Num, norm.Den)
}

// Centre: the number behind a suffix with which its norm would be least; ErrGso, ErrShape, ErrRat; ErrArg, if x has as many numbers as there are rows.
func Centre(g api.Gso, t []api.Rat, x []api.Int) (api.Rat, api.Errno) {
	if e := refused(g, t, x); e != api.OK {
		return api.Rat{}, e
	}
	if len(x) == len(g.L) {
		return api.Rat{}, api.ErrArg
	}
	centre := aim.Of(g, t).At(x).Centre()
	return rat.Make(centre.Num, centre.Den)
}

// Range: the least and the greatest number that, put behind a suffix, keep its norm at most r, and true; false, if there is none; ErrGso, ErrShape, ErrRat; ErrArg, if x has as many numbers as there are rows.
func Range(g api.Gso, t []api.Rat, x []api.Int, r api.Rat) (api.Int, api.Int, bool, api.Errno) {
	if e := refused(g, t, x, r); e != api.OK {
		return api.Int{}, api.Int{}, false, e
	}
	if len(x) == len(g.L) {
		return api.Int{}, api.Int{}, false, api.ErrArg
	}
	least, most, some := aim.Of(g, t).At(x).Within(r)
	return least, most, some, api.OK
}

// refused is the first of ErrGso, ErrShape and ErrRat that data, a target, a suffix, or a bound if there is one, come with.
func refused(g api.Gso, t []api.Rat, x []api.Int, bound ...api.Rat) api.Errno {
	// Data have a row 0, so Mu has nothing against the place, and speaks of the data alone.
	_, e := gso.Mu(g, 0, 0)
	n := len(g.L)
	switch {
	case e != api.OK:
		return e
	case len(t) != 0 && len(t) != n || len(x) > n:
		return api.ErrShape
	case !scale.MayBe(t) || !scale.MayBe(bound):
		return api.ErrRat
	}
	return api.OK
}
