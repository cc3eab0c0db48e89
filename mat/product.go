package mat

import (
	"trammel/api"
	"trammel/zint"
)

// Combine: the sum of the rows, each as many times as x says; ErrShape, if b has no shape, or x not as many entries as b rows.
func Combine(x []api.Int, b [][]api.Int) ([]api.Int, api.Errno) {
	height, width, e := Shape(b)
	if e != api.OK || len(x) != height {
		return nil, api.ErrShape
	}
	out := make([]api.Int, width)
	for j := range out {
		out[j] = weighed(x, b, j)
	}
	return out, api.OK
}

// weighed is the entry j of the sum of the rows, each as many times as x says.
func weighed(x []api.Int, b [][]api.Int, j int) api.Int {
	return zint.Sum(pairs(x, b, func(a api.Int, row []api.Int) api.Int { return zint.Mul(a, row[j]) }))
}

// Product: the matrix whose row i is Combine(a[i], b); ErrShape, if one has no shape, or they don't go together. An a without rows goes with each b.
func Product(a, b [][]api.Int) ([][]api.Int, api.Errno) {
	height, inner, left := Shape(a)
	rows, width, right := Shape(b)
	if left != api.OK || right != api.OK || height > 0 && inner != rows {
		return nil, api.ErrShape
	}
	return filled(height, width, func(i, j int) api.Int { return weighed(a[i], b, j) }), api.OK
}

// Turn: rows as columns; ErrShape, if b has no shape.
func Turn(b [][]api.Int) ([][]api.Int, api.Errno) {
	height, width, e := Shape(b)
	if e != api.OK {
		return nil, e
	}
	return filled(width, height, func(i, j int) api.Int { return zint.Form(b[j][i]) }), api.OK
}

// Gram: the products of all rows with each other; ErrShape, if b has no shape.
func Gram(b [][]api.Int) ([][]api.Int, api.Errno) {
	height, _, e := Shape(b)
	if e != api.OK {
		return nil, e
	}
	out := blank(height, height)
	for i := range height {
		out[i][i] = Norm(b[i])
		for j := range i {
			out[i][j] = dot(b[i], b[j])
			// The same number again, but in memory of its own.
			out[j][i] = zint.Form(out[i][j])
		}
	}
	return out, api.OK
}

// Unit: n rows with 1 at their own place, 0 elsewhere; ErrArg, if n is below 0; ErrLong, if it is above MaxSide.
func Unit(n int) ([][]api.Int, api.Errno) {
	switch {
	case n < 0:
		return nil, api.ErrArg
	case n > api.MaxSide:
		return nil, api.ErrLong
	}
	out := blank(n, n)
	for i := range n {
		out[i][i] = zint.Of(1)
	}
	return out, api.OK
}
