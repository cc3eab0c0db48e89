package gso

import (
	"iter"

	"trammel/api"
	"trammel/rat"
	"trammel/zint"
)

// Mu: how often b*(j) is in the row i; ErrGso; ErrArg, if there is no row i, or j is not from 0 to i.
func Mu(g api.Gso, i, j int) (api.Rat, api.Errno) {
	switch {
	case !mayBe(g):
		return api.Rat{}, api.ErrGso
	case j < 0 || j > i || i >= len(g.L):
		return api.Rat{}, api.ErrArg
	case j == i:
		return rat.Of(zint.Of(1)), api.OK
	}
	return rat.Make(g.L[i][j], g.D[j+1])
}

// Star: the squared length of b*(i); ErrGso; ErrArg, if there is no row i.
func Star(g api.Gso, i int) (api.Rat, api.Errno) {
	switch {
	case !mayBe(g):
		return api.Rat{}, api.ErrGso
	case i < 0 || i >= len(g.L):
		return api.Rat{}, api.ErrArg
	}
	return rat.Make(g.D[i+1], g.D[i])
}

// mayBe tells if the numbers may be data.
func mayBe(g api.Gso) bool {
	if len(g.L) == 0 || len(g.D) != len(g.L)+1 || zint.Compare(g.D[0], zint.Of(1)) != 0 {
		return false
	}
	for i, row := range g.L {
		if len(row) != i || zint.Sign(g.D[i+1]) <= 0 {
			return false
		}
	}
	return true
}

// handedOn is the data in lists of their own, but for the row that is left out: a changed one is to be put there.
func handedOn(g api.Gso, out int) api.Gso {
	h := api.Gso{D: renewed(g.D), L: make([][]api.Int, len(g.L))}
	for k, row := range others(g.L, out) {
		h.L[k] = renewed(row)
	}
	return h
}

// others goes over the rows and leaves one out.
func others(rows [][]api.Int, out int) iter.Seq2[int, []api.Int] {
	return func(yield func(k int, row []api.Int) bool) {
		for k, row := range rows {
			if k != out && !yield(k, row) {
				return
			}
		}
	}
}

// renewed is the list anew: a copy's numbers would still lie in the memory of the old ones, so each is made anew too.
func renewed(l []api.Int) []api.Int {
	out := make([]api.Int, len(l))
	copy(out, l)
	for i := range out {
		out[i] = zint.Form(out[i])
	}
	return out
}
