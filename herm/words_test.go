package herm_test

import (
	"math/big"
	"slices"
	"testing"

	"trammel/api"
)

// The chapter's words by the library's numbers, without the package's own ways.

// hermite is Hermite's form by Euclid's steps on rows: those of b, with the rows of a unit matrix behind them, which come to be the transform.
func hermite(b [][]api.Int, width int) (h, u [][]api.Int) {
	all := [][]bigInt{}
	for i, row := range b {
		all = append(all, slices.Concat(wholes(row), wholes(unit(len(b))[i])))
	}
	place := 0
	for c := range width {
		for place < len(all) && stepped(all, place, c) {
		}
		if place < len(all) && all[place][c].Sign() != 0 {
			place++
		}
	}
	for _, row := range all {
		h = append(h, forms(row[:width]))
		u = append(u, forms(row[width:]))
	}
	return h, u
}

// stepped brings the least entry of a column, from a place on, to that place, and takes it out of all others, those above too; false, if that changed nothing.
func stepped(all [][]bigInt, place, c int) bool {
	least := -1
	for i := place; i < len(all); i++ {
		if all[i][c].Sign() != 0 && (least < 0 || all[i][c].CmpAbs(all[least][c]) < 0) {
			least = i
		}
	}
	if least < 0 {
		return false
	}
	changed := least != place || all[place][c].Sign() < 0
	all[place], all[least] = all[least], all[place]
	head := all[place]
	if head[c].Sign() < 0 {
		for j, n := range head {
			head[j] = new(big.Int).Neg(n)
		}
	}
	for i, row := range all {
		q, _ := new(big.Int).DivMod(row[c], head[c], new(big.Int))
		if i == place || q.Sign() == 0 {
			continue
		}
		changed = true
		for j := range row {
			row[j] = new(big.Int).Sub(row[j], new(big.Int).Mul(q, head[j]))
		}
	}
	return changed
}

// lead is the place of the first entry that is not 0; as many as there are, if there is none.
func lead(v []api.Int) int {
	at := slices.IndexFunc(v, func(a api.Int) bool { return whole(a).Sign() != 0 })
	if at < 0 {
		return len(v)
	}
	return at
}

// isForm tells if a matrix is in Hermite's form, by its words.
func isForm(h [][]api.Int, width int) bool {
	ahead := -1
	for i, row := range h {
		at := lead(row)
		switch {
		case len(row) != width:
			return false
		case at == width:
			// None but rows of nought may follow.
			ahead = width
			continue
		case at <= ahead || whole(row[at]).Sign() < 0:
			return false
		}
		ahead = at
		for _, above := range h[:i] {
			if n := whole(above[at]); n.Sign() < 0 || n.Cmp(whole(row[at])) >= 0 {
				return false
			}
		}
	}
	return true
}

// basis is the one basis.
func basis(b [][]api.Int, width int) [][]api.Int {
	h, _ := hermite(b, width)
	return slices.DeleteFunc(h, func(row []api.Int) bool { return lead(row) == width })
}

// kernel is the one basis of what makes nought of b.
func kernel(b [][]api.Int, width int) [][]api.Int {
	h, u := hermite(b, width)
	out := [][]api.Int{}
	for i, row := range h {
		if lead(row) == width {
			out = append(out, u[i])
		}
	}
	return basis(out, len(b))
}

// rest is what is left of v by the one basis.
func rest(h [][]api.Int, v []api.Int) []api.Int {
	out := wholes(v)
	for _, row := range h {
		at := lead(row)
		q, _ := new(big.Int).DivMod(out[at], whole(row[at]), new(big.Int))
		for j, a := range row {
			out[j] = new(big.Int).Sub(out[j], new(big.Int).Mul(q, whole(a)))
		}
	}
	return forms(out)
}

// member tells if v belongs to b's lattice.
func member(b [][]api.Int, v []api.Int) bool {
	return lead(rest(basis(b, len(v)), v)) == len(v)
}

// meet is the one basis of what belongs to both: of the sums of a's rows that come to nought with some of b's.
func meet(a, b [][]api.Int, width int) [][]api.Int {
	out := [][]api.Int{}
	for _, x := range kernel(slices.Concat(a, b), width) {
		out = append(out, combined(x[:len(a)], a, width))
	}
	return basis(out, width)
}

// minors is the greatest number that divides the determinants of all squares of k of b's rows and columns.
func minors(b [][]api.Int, width, k int) bigInt {
	out := new(big.Int)
	choose(len(b), k, func(at []int) {
		choose(width, k, func(places []int) {
			square := [][]api.Int{}
			for _, i := range at {
				row := []api.Int{}
				for _, j := range places {
					row = append(row, b[i][j])
				}
				square = append(square, row)
			}
			out.GCD(nil, nil, out, new(big.Int).Abs(laplace(square)))
		})
	})
	return out
}

// choose calls f with all rising lists of k numbers below n.
func choose(n, k int, f func(l []int)) {
	var more func(l []int, from int)
	more = func(l []int, from int) {
		if len(l) == k {
			f(l)
			return
		}
		for i := from; i < n; i++ {
			more(append(l[:len(l):len(l)], i), i+1)
		}
	}
	more(nil, 0)
}

// laplace is the determinant by its definition, row by row.
func laplace(b [][]api.Int) bigInt {
	if len(b) == 0 {
		return big.NewInt(1)
	}
	sum := new(big.Int)
	for j, a := range b[0] {
		if whole(a).Sign() == 0 {
			continue
		}
		left := [][]api.Int{}
		for _, row := range b[1:] {
			left = append(left, slices.Concat(row[:j], row[j+1:]))
		}
		part := new(big.Int).Mul(whole(a), laplace(left))
		if j%2 != 0 {
			part.Neg(part)
		}
		sum.Add(sum, part)
	}
	return sum
}

// smith is by how much the common divisors of the squares grow: each with the one below it gives one of Smith's numbers.
func smith(b [][]api.Int, width int) []api.Int {
	out := []api.Int{}
	below := big.NewInt(1)
	for k := 1; k <= min(len(b), width); k++ {
		d := minors(b, width, k)
		if d.Sign() == 0 {
			break
		}
		out = append(out, form(new(big.Int).Quo(d, below)))
		below = d
	}
	return out
}

// TestWords: the words themselves, where they are known.
func TestWords(t *testing.T) {
	for _, c := range []struct {
		h  [][]api.Int
		is bool
	}{
		{rows(vec(1, 1), vec(0, 2)), true},
		{rows(vec(2, 1), vec(0, 0)), true},
		{rows(vec(0, 1), vec(0, 0), vec(0, 0)), true},
		{rows(vec(1, 2), vec(0, 2)), false},
		{rows(vec(1, -1), vec(0, 2)), false},
		{rows(vec(0, 1), vec(1, 0)), false},
		{rows(vec(1, 0), vec(1, 1)), false},
		{rows(vec(0, 0), vec(1, 0)), false},
		{rows(vec(1, 0), vec(0, 0), vec(0, 1)), false},
		{rows(vec(-1, 0)), false},
		{rows(vec(1, 0, 5), vec(0, 2, 0), vec(0, 0, 5)), false},
	} {
		if isForm(c.h, len(c.h[0])) != c.is {
			t.Errorf("%v: %t", c.h, !c.is)
		}
	}
	h, u := hermite(rows(vec(2, 4), vec(3, 5)), 2)
	wantRows(t, "hermite", h, rows(vec(1, 1), vec(0, 2)))
	wantRows(t, "hermite", product(u, rows(vec(2, 4), vec(3, 5)), 2), h)
	wantRows(t, "kernel", kernel(rows(vec(2), vec(4)), 1), rows(vec(2, -1)))
	wantRows(t, "meet", meet(rows(vec(4)), rows(vec(6)), 1), rows(vec(12)))
	wantVector(t, "smith", smith(diag(2, 3), 2), vec(1, 6))
}
