package herm

import (
	"iter"

	"trammel/api"
	"trammel/mat"
	"trammel/zint"
)

// lattice is a matrix in Hermite's form; rows of nought may stand at its end.
type lattice [][]api.Int

// told tells the rows that are not nought, each with the place of its head.
func (l lattice) told() iter.Seq2[int, []api.Int] {
	return func(yield func(at int, row []api.Int) bool) {
		for _, row := range l {
			if at := mat.Lead(row); at < 0 || !yield(at, row) {
				return
			}
		}
	}
}

// rank is how many rows are not nought.
func (l lattice) rank() int {
	n := 0
	for range l.told() {
		n++
	}
	return n
}

// heads is the product of all heads.
func (l lattice) heads() api.Int {
	out := zint.Of(1)
	for at, row := range l.told() {
		out = zint.Mul(out, row[at])
	}
	return out
}

// rest is v less a vector of the lattice, so that the entries in the places of heads are from 0 on, below the heads.
func (l lattice) rest(v []api.Int) []api.Int {
	out := mat.Form([][]api.Int{v})[0]
	for at, row := range l.told() {
		if q, _, _ := zint.Floor(out[at], row[at]); zint.Sign(q) != 0 {
			out, _ = mat.Minus(out, mat.Times(q, row))
		}
	}
	return out
}

// holds tells if all vectors belong to the lattice.
func (l lattice) holds(all ...[]api.Int) bool {
	for _, v := range all {
		if mat.Lead(l.rest(v)) >= 0 {
			return false
		}
	}
	return true
}

// form is Hermite's form of a matrix beside the transform to it. The rows of the transform that make rows of nought are themselves in Hermite's form.
type form struct {
	lattice
	by [][]api.Int
}

// kernel is the one basis of what makes nought of the matrix.
func (f form) kernel() [][]api.Int {
	return f.by[f.rank():]
}
