package zint

import (
	"trammel/api"
	"trammel/nat"
)

// Floor: the floor q of a / b, and a - q * b; ErrDiv, if b is 0.
func Floor(a, b api.Int) (api.Int, api.Int, api.Errno) {
	q, r, e := nat.Div(a.Mag, b.Mag)
	if e != api.OK {
		return api.Int{}, api.Int{}, e
	}
	if a.Neg != b.Neg && len(r) > 0 {
		// The quotient of the magnitudes is cut towards 0, which is above the floor.
		q = nat.Add(q, []uint32{1})
		r, _ = nat.Sub(b.Mag, r)
	}
	return signed(a.Neg != b.Neg, q), signed(b.Neg, r), api.OK
}

// Near: the floor of a / b + 1/2; ErrDiv, if b is 0.
func Near(a, b api.Int) (api.Int, api.Errno) {
	q, r, e := Floor(a, b)
	if e != api.OK {
		return api.Int{}, e
	}
	if nat.Cmp(nat.Add(r.Mag, r.Mag), b.Mag) >= 0 {
		q = Add(q, Of(1))
	}
	return q, api.OK
}

// Exact: a / b; ErrDiv, if b is 0; ErrRest, if it is no whole number.
func Exact(a, b api.Int) (api.Int, api.Errno) {
	q, r, e := nat.Div(a.Mag, b.Mag)
	switch {
	case e != api.OK:
		return api.Int{}, e
	case len(r) > 0:
		return api.Int{}, api.ErrRest
	}
	return signed(a.Neg != b.Neg, q), api.OK
}
