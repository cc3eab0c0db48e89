package elim

import (
	"slices"

	"trammel/api"
	"trammel/mat"
	"trammel/zint"
)

// steps is a matrix brought into steps: the first rows have heads, each further right than the one ahead, all others are nought. Each entry of the rows is a determinant of entries of the matrix, so none grows beyond those; a head's is that of its own and the earlier rows and heads.
type steps struct {
	rows  [][]api.Int
	width int
	heads []int
	// lifts tells of each row with a head how many places higher it stands than it stood when the rows ahead had theirs.
	lifts []int
}

// inSteps brings rows of that many entries into steps; the rows are changed.
func inSteps(rows [][]api.Int, width int) *steps {
	s := &steps{rows: rows, width: width}
columns:
	for c := range width {
		place := len(s.heads)
		at := place
		for ; ; at++ {
			if at == len(rows) {
				continue columns
			}
			if zint.Sign(rows[at][c]) != 0 {
				break
			}
		}
		s.lift(at, place)
		s.sweep(place, c)
		s.heads = append(s.heads, c)
	}
	return s
}

// lift brings a row up to its place, by exchanges with its neighbour alone: so the rows that wait below stay in their order, which Minors asks for.
func (s *steps) lift(at, place int) {
	for i := at; i > place; i-- {
		s.rows[i-1], s.rows[i] = s.rows[i], s.rows[i-1]
	}
	s.lifts = append(s.lifts, at-place)
}

// sweep takes the row at a place out of all below, so that their entries in the column c are 0. As every new entry is a determinant (Bareiss), the division comes out even.
func (s *steps) sweep(place, c int) {
	top, share := s.rows[place], s.last()
	for _, row := range s.rows[place+1:] {
		for j := c + 1; j < s.width; j++ {
			a := zint.Sub(zint.Mul(top[c], row[j]), zint.Mul(row[c], top[j]))
			row[j], _ = zint.Exact(a, share)
		}
		row[c] = api.Int{}
	}
}

// last is the entry of the last head; 1, as a determinant of nothing, if there is none.
func (s *steps) last() api.Int {
	if n := len(s.heads); n > 0 {
		return s.rows[n-1][s.heads[n-1]]
	}
	return zint.Of(1)
}

// odd tells if the rows were exchanged an odd number of times.
func (s *steps) odd() bool {
	sum := 0
	for _, n := range s.lifts {
		sum += n
	}
	return sum%2 != 0
}

// rank is how many heads there are in the first columns.
func (s *steps) rank(columns int) int {
	n, _ := slices.BinarySearch(s.heads, columns)
	return n
}

// free is the columns without a head.
func (s *steps) free() []int {
	out := []int{}
	for c := range s.width {
		if !slices.Contains(s.heads, c) {
			out = append(out, c)
		}
	}
	return out
}

// shares is by how much of each head's column the column c is made, times last: by Cramer's rule whole numbers.
func (s *steps) shares(c int) []api.Int {
	n := len(s.heads)
	out := make([]api.Int, n)
	for k := range n {
		i := n - 1 - k
		row := s.rows[i]
		parts := []api.Int{}
		for j := i + 1; j < n; j++ {
			parts = append(parts, zint.Mul(row[s.heads[j]], out[j]))
		}
		a := zint.Sub(zint.Mul(s.last(), row[c]), zint.Sum(parts))
		out[i], _ = zint.Exact(a, row[s.heads[i]])
	}
	return out
}

// relation is how many times each column is to be taken that they come to nought together: the column c, which has no head, as often as last says, and beside it none but those of heads.
func (s *steps) relation(c int) []api.Int {
	out := make([]api.Int, s.width)
	for i, a := range s.shares(c) {
		out[s.heads[i]] = zint.Neg(a)
	}
	out[c] = zint.Form(s.last())
	return out
}

// primitive is a list, not all of it 0, without its common divisor, the first number that is not 0 being above 0.
func primitive(l []api.Int) []api.Int {
	g := api.Int{}
	for _, a := range l {
		g = zint.Gcd(g, a)
	}
	out := mat.Upright(l)
	for i, a := range out {
		out[i], _ = zint.Exact(a, g)
	}
	return out
}
