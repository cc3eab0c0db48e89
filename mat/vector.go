package mat

import (
	"slices"

	"trammel/api"
	"trammel/zint"
)

// Dot: the sum of the products, entry by entry; ErrShape, if they have not as many entries.
func Dot(u, v []api.Int) (api.Int, api.Errno) {
	if len(u) != len(v) {
		return api.Int{}, api.ErrShape
	}
	return dot(u, v), api.OK
}

// dot is Dot of two vectors of one length.
func dot(u, v []api.Int) api.Int {
	return zint.Sum(pairs(u, v, zint.Mul))
}

// Norm: the sum of the squares.
func Norm(v []api.Int) api.Int {
	return dot(v, v)
}

// Plus: the sum, entry by entry; ErrShape, if they have not as many.
func Plus(u, v []api.Int) ([]api.Int, api.Errno) {
	return joined(u, v, zint.Add)
}

// Minus: the difference, entry by entry; ErrShape, if they have not as many.
func Minus(u, v []api.Int) ([]api.Int, api.Errno) {
	return joined(u, v, zint.Sub)
}

// joined is what do makes of two vectors, entry by entry.
func joined(u, v []api.Int, do func(a, b api.Int) api.Int) ([]api.Int, api.Errno) {
	if len(u) != len(v) {
		return nil, api.ErrShape
	}
	return pairs(u, v, do), api.OK
}

// Times: each entry k times.
func Times(k api.Int, v []api.Int) []api.Int {
	return each(v, func(a api.Int) api.Int { return zint.Mul(k, a) })
}

// Order: -1, 0, 1, as the first entries in which they differ are; one that ends first is below.
func Order(u, v []api.Int) int {
	return slices.CompareFunc(u, v, zint.Compare)
}

// Lead: the place of the first entry that is not 0; -1, if there is none.
func Lead(v []api.Int) int {
	return slices.IndexFunc(v, func(a api.Int) bool { return zint.Sign(a) != 0 })
}

// Upright: v or -v, that of which the first entry that is not 0 is above 0.
func Upright(v []api.Int) []api.Int {
	if at := Lead(v); at >= 0 && zint.Sign(v[at]) < 0 {
		return each(v, zint.Neg)
	}
	return each(v, zint.Form)
}
