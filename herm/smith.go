package herm

import (
	"trammel/api"
	"trammel/mat"
	"trammel/zint"
)

// diagonal is the heads of a matrix that has nothing but heads, to which a lattice comes by rows and columns.
func diagonal(l lattice) []api.Int {
	over, _ := mat.Turn(l)
	// Of rank as many as it has columns: a square, with a head in each column.
	square := of(over)
	by := square.heads()
	for !bare(square) {
		// Row 0 and column 0 have no other entry as soon as the head there divides the row; till then it comes down with each turn. So it goes on with the next ones.
		over, _ = mat.Turn(square)
		square = modulo(over, len(square), by)
	}
	out := []api.Int{}
	for at, row := range square.told() {
		out = append(out, row[at])
	}
	return out
}

// bare tells if no row has an entry behind its head.
func bare(l lattice) bool {
	for at, row := range l.told() {
		if mat.Lead(row[at+1:]) >= 0 {
			return false
		}
	}
	return true
}

// divisors is numbers above 0 each of which divides the next one, to which those of a diagonal come by rows and columns. The list is changed.
func divisors(l []api.Int) []api.Int {
	for i := range l {
		for j := i + 1; j < len(l); j++ {
			// A square of two numbers comes to their common divisor and multiple.
			l[i], l[j] = zint.Gcd(l[i], l[j]), multiple(l[i], l[j])
		}
	}
	return l
}
