package herm

import (
	"slices"

	"trammel/api"
	"trammel/mat"
	"trammel/zint"
)

// modulo is Hermite's form of the lattice of the rows and of all vectors whose entries are multiples of by. As those belong to it, no number need ever be greater than by, and each column has a head.
func modulo(rows [][]api.Int, width int, by api.Int) lattice {
	left := make([][]api.Int, len(rows))
	for i, row := range rows {
		left[i] = mixed(zint.Of(1), row, api.Int{}, row, by)
	}
	out := make(lattice, width)
	for c := range width {
		multiple := make([]api.Int, width-c)
		multiple[0] = by
		var head []api.Int
		head, left = gathered(append(left, multiple), by)
		out[c] = slices.Concat(make([]api.Int, c), head)
	}
	for i := range slices.Backward(out) {
		lowered(out, i, by)
	}
	return out
}

// gathered joins rows into one whose first entry divides those of all, and rows that have 0 there, which are told without it; rows of nought are left out. The list of rows is changed.
func gathered(rows [][]api.Int, by api.Int) ([]api.Int, [][]api.Int) {
	// least brings the row of the least entry that is not 0 to the front: where that entry divides another one, Bezout's numbers are not needed.
	least := func() []api.Int {
		for i, row := range rows {
			front := rows[0][0]
			if zint.Sign(row[0]) != 0 && (zint.Sign(front) == 0 || zint.Compare(row[0], front) < 0) {
				rows[0], rows[i] = row, rows[0]
			}
		}
		return rows[0]
	}
	head := least()
	join := func(row []api.Int) []api.Int {
		q, rest, _ := zint.Floor(row[0], head[0])
		if zint.Sign(rest) == 0 {
			return mixed(zint.Of(1), row, zint.Neg(q), head, by)
		}
		g, x, y := zint.Bezout(head[0], row[0])
		up, _ := zint.Exact(head[0], g)
		down, _ := zint.Exact(row[0], g)
		both := mixed(x, head, y, row, by)
		row = mixed(up, row, zint.Neg(down), head, by)
		head = both
		return row
	}
	left := [][]api.Int{}
	for _, row := range rows[1:] {
		if zint.Sign(row[0]) != 0 {
			row = join(row)
		}
		if mat.Lead(row) >= 0 {
			left = append(left, row[1:])
		}
	}
	return head, left
}

// mixed is what x times u and y times v have left over by a modulus.
func mixed(x api.Int, u []api.Int, y api.Int, v []api.Int, by api.Int) []api.Int {
	out := make([]api.Int, len(u))
	for i := range out {
		if zint.Sign(u[i]) != 0 || zint.Sign(v[i]) != 0 {
			_, out[i], _ = zint.Floor(zint.Add(zint.Mul(x, u[i]), zint.Mul(y, v[i])), by)
		}
	}
	return out
}

// lowered brings the entries of the row i, behind its head, below the heads of the rows below it, which have theirs so already. Each column has a head.
func lowered(l lattice, i int, by api.Int) {
	for j := i + 1; j < len(l); j++ {
		if q, _, _ := zint.Floor(l[i][j], l[j][j]); zint.Sign(q) != 0 {
			copy(l[i][j:], mixed(zint.Of(1), l[i][j:], zint.Neg(q), l[j][j:], by))
		}
	}
}
