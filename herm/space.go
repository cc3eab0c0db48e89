package herm

import (
	"slices"

	"trammel/api"
	"trammel/elim"
	"trammel/mat"
	"trammel/zint"
)

// of is the one basis of b's lattice.
func of(b [][]api.Int) lattice {
	return settled(b, independent(b), zint.Of(1))
}

// settled is the one basis of the lattice of the rows. It lies in the space of base, rows that are independent, and all of base's lattice times the number times belongs to it.
//
// In the space of base a vector is known by its entries in the columns of heads. There so many times a determinant of base makes vectors of the lattice, with which it is brought into Hermite's form; the other entries follow.
func settled(rows, base [][]api.Int, times api.Int) lattice {
	steps, heads, _ := elim.Steps(base)
	det, _ := elim.Det(columns(base, heads))
	square := modulo(columns(rows, heads), len(heads), zint.Mul(times, zint.Abs(det)))
	// The steps are first brought to one number in all places of heads.
	share := zint.Of(1)
	for i, at := range heads {
		share = multiple(share, steps[i][at])
	}
	for i, at := range heads {
		k, _ := zint.Exact(share, steps[i][at])
		steps[i] = mat.Times(k, steps[i])
	}
	return divided(square, steps, share)
}

// divided is the product of two matrices by a number that divides all of it.
func divided(a, b [][]api.Int, by api.Int) [][]api.Int {
	out, _ := mat.Product(a, b)
	for _, row := range out {
		for j, n := range row {
			row[j], _ = zint.Exact(n, by)
		}
	}
	return out
}

// multiple is the least number above 0 that both divide, which are above 0.
func multiple(a, b api.Int) api.Int {
	part, _ := zint.Exact(a, zint.Gcd(a, b))
	return zint.Mul(part, b)
}

// columns is the matrix of b's columns in some places.
func columns(b [][]api.Int, places []int) [][]api.Int {
	out := make([][]api.Int, len(b))
	for i, row := range b {
		out[i] = picked(row, places)
	}
	return out
}

// picked is what stands in some places of a list.
func picked[T any](l []T, places []int) []T {
	out := make([]T, len(places))
	for i, at := range places {
		out[i] = l[at]
	}
	return out
}

// independent is as many rows of b as are independent.
func independent(b [][]api.Int) [][]api.Int {
	over, _ := mat.Turn(b)
	_, places, _ := elim.Steps(over)
	return picked(b, places)
}

// across is the products of l's rows with vectors that span all that is upright on each row of space: a sum of l's rows lies in that space, if it comes to nought here.
func across(l, space lattice) [][]api.Int {
	over, _ := mat.Turn(space)
	upright, _ := elim.Null(over)
	out := make([][]api.Int, len(l))
	for i, row := range l {
		for _, v := range upright {
			a, _ := mat.Dot(row, v)
			out[i] = append(out[i], a)
		}
	}
	return out
}

// joined is the one basis of all sums of one of each.
func joined(a, b lattice) lattice {
	if len(a) == 0 {
		return b
	}
	over, _ := mat.Turn(across(b, a))
	_, places, _ := elim.Steps(over)
	return settled(slices.Concat(a, b), slices.Concat(a, picked(b, places)), zint.Of(1))
}

// met is the one basis of what belongs to both.
func met(a, b lattice) lattice {
	if len(a) == 0 || len(b) == 0 {
		return nil
	}
	// What of a's lattice lies in b's space at all.
	in, _ := mat.Product(transformed(across(a, b)).kernel(), a)
	heads := []int{}
	for at := range b.told() {
		heads = append(heads, at)
	}
	inverse, den, _ := elim.Inverse(columns(b, heads))
	// By b's rows it has these numbers, each to be divided by den.
	by, _ := mat.Product(columns(in, heads), inverse)
	unit, _ := mat.Unit(len(in))
	for i := range by {
		by[i] = append(by[i], unit[i]...)
	}
	// Of the sums of its rows whose numbers den divides, the rows of unit tell how they are made.
	sums := modulo(by, len(b)+len(in), den)[len(b):]
	for i, row := range sums {
		sums[i] = row[len(b):]
	}
	rows, _ := mat.Product(sums, in)
	return settled(rows, in, den)
}

// transformed is Hermite's form of b, beside a transform to it.
//
// The matrix that has b's columns of heads, and behind them those of a unit matrix in which what makes nought of b has its heads, is a square with an inverse. A transform that brings it into Hermite's form does so with b, too.
func transformed(b [][]api.Int) form {
	_, heads, _ := elim.Steps(b)
	null, _ := elim.Null(b)
	places := []int{}
	for _, x := range null {
		places = append(places, mat.Lead(x))
	}
	unit, _ := mat.Unit(len(b))
	square := columns(b, heads)
	for i := range square {
		square[i] = append(square[i], picked(unit[i], places)...)
	}
	inverse, den, _ := elim.Inverse(square)
	// The multiples of den are sums of the square's rows, as the inverse says.
	by := divided(modulo(square, len(b), den), inverse, den)
	rows, _ := mat.Product(by, b)
	return form{rows, by}
}
