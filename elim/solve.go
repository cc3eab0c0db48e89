package elim

import (
	"slices"

	"trammel/api"
	"trammel/mat"
	"trammel/zint"
)

// Solve: x and a denominator, in lowest terms, with Combine(x, b) the denominator times v; ErrShape, if v has not as many entries as a row; ErrDependent, if the rows are dependent; ErrNone, if there is no x.
func Solve(b [][]api.Int, v []api.Int) ([]api.Int, api.Int, api.Errno) {
	var s *steps
	var l []api.Int
	height, width, e := sized(b)
	if e != api.OK {
		goto refused
	}
	e = api.ErrShape
	if height > 0 && len(v) != width {
		goto refused
	}
	s = acrossWith(b, v)
	e = api.ErrDependent
	if s.rank(height) < height {
		goto refused
	}
	e = api.ErrNone
	if len(s.heads) > height {
		goto refused
	}
	// The denominator stands first, so that it is what comes to be above 0.
	l = primitive(slices.Concat([]api.Int{s.last()}, s.shares(height)))
	return l[1:], l[0], api.OK
refused:
	return nil, api.Int{}, e
}

// Inverse: a matrix and a denominator, in lowest terms, whose quotient is the inverse; ErrShape, if b is not square; ErrDependent, if there is none.
func Inverse(b [][]api.Int) ([][]api.Int, api.Int, api.Errno) {
	var s *steps
	var unit, out [][]api.Int
	var l []api.Int
	n, e := square(b)
	if e != api.OK {
		goto refused
	}
	unit, _ = mat.Unit(n)
	s = acrossWith(b, unit...)
	e = api.ErrDependent
	if s.rank(n) < n {
		goto refused
	}
	// The row i is what Solve finds for the row i of the unit matrix.
	l = []api.Int{s.last()}
	for i := range n {
		l = append(l, s.shares(n+i)...)
	}
	l = primitive(l)
	for i := range n {
		from, to := 1+i*n, 1+i*n+n
		out = append(out, l[from:to:to])
	}
	return out, l[0], api.OK
refused:
	return nil, api.Int{}, e
}

// Null: the reduced steps of all x with Combine(x, b) = 0.
func Null(b [][]api.Int) ([][]api.Int, api.Errno) {
	if _, _, e := sized(b); e != api.OK {
		return nil, e
	}
	// A relation has its own column behind those of heads. With the last row first it has it ahead of them when it is turned round, and as no other relation has that column, they stand in reduced steps.
	back := slices.Clone(b)
	slices.Reverse(back)
	s := acrossWith(back)
	out := [][]api.Int{}
	for _, c := range slices.Backward(s.free()) {
		x := s.relation(c)
		slices.Reverse(x)
		out = append(out, primitive(x))
	}
	return out, api.OK
}

// Cramer: for each i the determinant of b with v in the place of the row i, and that of b; ErrShape, if b is not square, or v has not as many entries.
func Cramer(b [][]api.Int, v []api.Int) ([]api.Int, api.Int, api.Errno) {
	var s *steps
	var out []api.Int
	var own int
	n, e := square(b)
	if e != api.OK {
		goto refused
	}
	e = api.ErrShape
	if len(v) != n {
		goto refused
	}
	s = acrossWith(b, v)
	if len(s.heads) < n {
		return make([]api.Int, n), api.Int{}, api.OK
	}
	// Of b's rows and v, which span all, there is but one relation, and its numbers are the determinants asked for, that of b with a minus, if all of them have the right sign. The number in its own column is that of the heads' rows: for the right sign their exchanges are to be taken back, and v to be brought from the end to the place where a row is missing.
	own = s.free()[0]
	out = s.relation(own)
	if s.odd() != ((n-own)%2 == 0) {
		out = mat.Times(zint.Of(-1), out)
	}
	return out[:n:n], zint.Neg(out[n]), api.OK
refused:
	return nil, api.Int{}, e
}

// acrossWith brings the matrix into steps that has the rows of b as its columns, and more columns behind them.
func acrossWith(b [][]api.Int, more ...[]api.Int) *steps {
	all := make([][]api.Int, len(b)+len(more))
	copy(all, b)
	copy(all[len(b):], more)
	rows, _ := mat.Turn(all)
	return inSteps(rows, len(all))
}
