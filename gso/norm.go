package gso

import (
	"trammel/api"
	"trammel/rat"
	"trammel/zint"
)

// Norm: the squared length of the sum of the rows, each as many times as x says; ErrGso; ErrShape, if x has not as many numbers as there are rows.
func Norm(g api.Gso, x []api.Int) (api.Rat, api.Errno) {
	switch {
	case !mayBe(g):
		return api.Rat{}, api.ErrGso
	case len(x) != len(g.L):
		return api.Rat{}, api.ErrShape
	}
	sum := rat.Of(zint.Of(0))
	for i := range x {
		// D[i + 1] times how often b*(i) is in the sum: with that the square times Star(i) is whole numbers but for one division.
		s := zint.Add(zint.Mul(x[i], g.D[i+1]), behind(g, x, i))
		part, _ := rat.Make(zint.Mul(s, s), zint.Mul(g.D[i], g.D[i+1]))
		sum, _ = rat.Add(sum, part)
	}
	return sum, api.OK
}

// behind is D[i + 1] times how often b*(i) is in the rows behind i together, each as many times as x says.
func behind(g api.Gso, x []api.Int, i int) api.Int {
	parts := []api.Int{}
	for j := i + 1; j < len(x); j++ {
		parts = append(parts, zint.Mul(x[j], g.L[j][i]))
	}
	return zint.Sum(parts)
}
