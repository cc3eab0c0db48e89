package mat

import (
	"slices"

	"trammel/api"
)

// each goes over a list, and is the new list of what do makes of its parts.
func each[A, B any](l []A, do func(a A) B) []B {
	out := make([]B, len(l))
	for i, a := range l {
		out[i] = do(a)
	}
	return out
}

// pairs goes over two lists of one length, and is the new list of what do makes of the parts at one place.
func pairs[A, B, C any](l []A, m []B, do func(a A, b B) C) []C {
	out := make([]C, len(l))
	for i, a := range l {
		out[i] = do(a, m[i])
	}
	return out
}

// cut is the rows that lie in one list, one behind the other. A row ends where its room ends: what is appended to it does not run into the next one.
func cut(all []api.Int, sizes []int) [][]api.Int {
	return each(sizes, func(size int) []api.Int {
		row := all[:size:size]
		all = all[size:]
		return row
	})
}

// blank is a matrix of noughts.
func blank(height, width int) [][]api.Int {
	return cut(make([]api.Int, height*width), slices.Repeat([]int{width}, height))
}

// filled is the matrix of whose entries each is what entry says of its place.
func filled(height, width int, entry func(i, j int) api.Int) [][]api.Int {
	out := blank(height, width)
	for i, row := range out {
		for j := range row {
			row[j] = entry(i, j)
		}
	}
	return out
}
