package gso

import (
	"trammel/api"
	"trammel/rat"
	"trammel/scale"
	"trammel/zint"
)

// Coords: by how much of each row one comes to the point of the rows' span nearest to t, and the squared distance from there to t; Valid's error; ErrShape, if t has not as many numbers as a row; ErrRat, if one of t may not be.
func Coords(b [][]api.Int, t []api.Rat) ([]api.Rat, api.Rat, api.Errno) {
	g, e := Of(b)
	switch {
	case e != api.OK:
		return nil, api.Rat{}, e
	case len(t) != len(b[0]):
		return nil, api.Rat{}, api.ErrShape
	case !scale.MayBe(t):
		return nil, api.Rat{}, api.ErrRat
	}
	row, m := scale.Whole(t)
	l, d := left(g, b, row)
	whole := zint.Mul(g.D[len(b)], m)
	out := make([]api.Rat, len(b))
	for i, a := range solved(g, l) {
		out[i], _ = rat.Make(a, whole)
	}
	distance, _ := rat.Make(d, zint.Mul(whole, m))
	return out, distance, api.OK
}

// solved is, for one more row whose L is l, the last D times by how much of each row one comes to its part in the rows' span: by Cramer's rule whole numbers, if that row is of such.
func solved(g api.Gso, l []api.Int) []api.Int {
	n := len(l)
	x := make([]api.Int, n)
	for k := range n {
		i := n - 1 - k
		a := zint.Sub(zint.Mul(g.D[n], l[i]), behind(g, x, i))
		x[i], _ = zint.Exact(a, g.D[i+1])
	}
	return x
}
