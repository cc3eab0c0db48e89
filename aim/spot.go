package aim

import (
	"trammel/api"
	"trammel/zint"
)

// Spot is where a suffix leads. It stays what it is, so that one may go on from it several times.
type Spot struct {
	aim    *Aim
	shifts []api.Int // den times how far each number is from the target's
	behind api.Int   // den D[i + 1] times the sum, over the rows j behind the next row i, of mu(j, i) times the shift of j; nothing, if there is no next row
	num    api.Int
	rest   api.Int
}

// Left is how many rows have no number yet.
func (s Spot) Left() int {
	return s.aim.Rows() - len(s.shifts)
}

// row is the one whose number comes next, -1, if there is none.
func (s Spot) row() int {
	return s.Left() - 1
}

// Child is the spot of the suffix with one number more. A row is left.
func (s Spot) Child(x api.Int) Spot {
	a, i := s.aim, s.row()
	d, more := a.g.D[i], a.g.D[i+1]
	shift := a.shift(x, i)
	w := zint.Add(zint.Mul(shift, more), s.behind)
	out := Spot{
		aim:    a,
		shifts: append(s.shifts[:len(s.shifts):len(s.shifts)], shift),
		num:    zint.Add(zint.Mul(s.num, d), zint.Mul(s.rest, zint.Mul(w, w))),
		rest:   s.rest,
	}
	// The norm is num by D of the last row taken, by den squared, and by rest. Of the data of rows each division by a D comes out even, since num is a determinant of dot products then: so rest stays 1, and no number grows long. What does not come out even gathers in rest.
	if even, e := zint.Exact(out.num, more); e == api.OK {
		out.num = even
	} else {
		out.rest = zint.Mul(out.rest, more)
	}
	out.behind = out.sum()
	return out
}

// sum is what behind is to be.
func (s Spot) sum() api.Int {
	if s.Left() == 0 {
		return api.Int{}
	}
	parts := make([]api.Int, len(s.shifts))
	for k, shift := range s.shifts {
		parts[k] = zint.Mul(shift, s.aim.g.L[s.aim.next(k)][s.row()])
	}
	return zint.Sum(parts)
}

// Norm is how far off the suffix leads at least, squared, perhaps not in lowest terms.
func (s Spot) Norm() api.Rat {
	den := zint.Mul(s.aim.den, s.aim.den)
	return api.Rat{Num: s.num, Den: zint.Mul(den, zint.Mul(s.rest, s.aim.g.D[s.row()+1]))}
}

// Centre is the number with which, put behind the suffix, the norm would not grow, perhaps not in lowest terms. A row is left.
func (s Spot) Centre() api.Rat {
	d := s.aim.g.D[s.row()+1]
	num := zint.Sub(zint.Mul(s.aim.target[s.row()], d), s.behind)
	return api.Rat{Num: num, Den: zint.Mul(s.aim.den, d)}
}

// Within is the least and the greatest number that, put behind the suffix, keep the norm at most r, which may be; false, if there is none. A row is left.
func (s Spot) Within(r api.Rat) (api.Int, api.Int, bool) {
	off, some := s.reach(r)
	if !some {
		return api.Int{}, api.Int{}, false
	}
	c := s.Centre()
	greatest, _, _ := zint.Floor(zint.Add(c.Num, off), c.Den)
	turned, _, _ := zint.Floor(zint.Sub(off, c.Num), c.Den)
	least := zint.Neg(turned)
	if zint.Compare(least, greatest) > 0 {
		return api.Int{}, api.Int{}, false
	}
	return least, greatest, true
}

// reach is how far a number that keeps the norm at most r may be off the centre, times the centre's Den, which makes it whole; false, if the norm is above r already.
func (s Spot) reach(r api.Rat) (api.Int, bool) {
	// Its square, times Star, by the square of den D[i + 1], is at most what r leaves: r less num by den squared, D[i + 1] and rest. Star is D[i + 1] by D[i].
	a, d, more := s.aim, s.aim.g.D[s.row()], s.aim.g.D[s.row()+1]
	all := zint.Mul(zint.Mul(r.Num, zint.Mul(a.den, a.den)), zint.Mul(more, s.rest))
	left := zint.Sub(all, zint.Mul(s.num, r.Den))
	if zint.Sign(left) < 0 {
		return api.Int{}, false
	}
	square, _, _ := zint.Floor(zint.Mul(left, d), zint.Mul(r.Den, s.rest))
	root, _ := zint.Root(square)
	return root, true
}
