package filter

import (
	"trammel/api"
	"trammel/rat"
	"trammel/scale"
	"trammel/zint"
)

// aim is data and a target, whose number of the row j is target[j] by den, which is above 0: so all is whole numbers till the end.
type aim struct {
	g      api.Gso
	target []api.Int
	den    api.Int
}

// aimOf keeps the data themselves, and nothing of t.
func aimOf(g api.Gso, t []api.Rat) aim {
	target, den := scale.Whole(t)
	if len(t) == 0 {
		target = make([]api.Int, len(g.L))
	}
	return aim{g: g, target: target, den: den}
}

// renewed is the data in memory of their own.
func renewed(g api.Gso) api.Gso {
	list := func(l []api.Int) []api.Int {
		out := make([]api.Int, len(l))
		for i, a := range l {
			out[i] = zint.Form(a)
		}
		return out
	}
	h := api.Gso{D: list(g.D), L: make([][]api.Int, len(g.L))}
	for i, row := range g.L {
		h.L[i] = list(row)
	}
	return h
}

func (a aim) rows() int {
	return len(a.g.L)
}

// next is the row whose number would come behind m others.
func (a aim) next(m int) int {
	return a.rows() - 1 - m
}

// shifts is den times the shifts of a suffix, in its order.
func (a aim) shifts(x []api.Int) []api.Int {
	out := make([]api.Int, len(x))
	for k, n := range x {
		out[k] = zint.Sub(zint.Mul(n, a.den), a.target[a.next(k)])
	}
	return out
}

// behind is, of the row i that comes behind the shifts, the sum over the rows of the shifts of each times its mu with i, and all that D[i + 1] times.
func (a aim) behind(shifts []api.Int) api.Int {
	i := a.next(len(shifts))
	parts := make([]api.Int, len(shifts))
	for k, s := range shifts {
		parts[k] = zint.Mul(s, a.g.L[a.next(k)][i])
	}
	return zint.Sum(parts)
}

// norm is that of the suffix with these shifts, perhaps not in lowest terms.
func (a aim) norm(shifts []api.Int) api.Rat {
	// What is summed so far is num by both d, the D of the last row taken, and rest. Of the data of rows each division by a D comes out even, since num is a determinant of dot products then: so rest stays 1, and no number grows long. What does not come out even gathers in rest.
	num, rest, d := zint.Of(0), zint.Of(1), zint.Of(1)
	for k, s := range shifts {
		i := a.next(k)
		more := a.g.D[i+1]
		d = a.g.D[i]
		w := zint.Add(zint.Mul(s, more), a.behind(shifts[:k]))
		num = zint.Add(zint.Mul(num, d), zint.Mul(rest, zint.Mul(w, w)))
		if even, e := zint.Exact(num, more); e == api.OK {
			num = even
		} else {
			rest = zint.Mul(rest, more)
		}
	}
	return api.Rat{Num: num, Den: zint.Mul(zint.Mul(rest, d), zint.Mul(a.den, a.den))}
}

// centre is that of the suffix with these shifts, perhaps not in lowest terms.
func (a aim) centre(shifts []api.Int) api.Rat {
	i := a.next(len(shifts))
	d := a.g.D[i+1]
	return api.Rat{Num: zint.Sub(zint.Mul(a.target[i], d), a.behind(shifts)), Den: zint.Mul(a.den, d)}
}

// within is the least and the greatest number that, put behind the suffix with these shifts, keep the norm at most r; false, if there is none.
func (a aim) within(shifts []api.Int, r api.Rat) (api.Int, api.Int, bool) {
	left, _ := rat.Sub(r, a.norm(shifts))
	if zint.Sign(left.Num) < 0 {
		return api.Int{}, api.Int{}, false
	}
	// Den times how far a number is off the centre is whole: so it is at most off, or the number is too far.
	c, off := a.centre(shifts), a.most(left, len(shifts))
	greatest, _, _ := zint.Floor(zint.Add(c.Num, off), c.Den)
	turned, _, _ := zint.Floor(zint.Sub(off, c.Num), c.Den)
	least := zint.Neg(turned)
	if zint.Compare(least, greatest) > 0 {
		return api.Int{}, api.Int{}, false
	}
	return least, greatest, true
}

// most is the greatest whole number of which the square, by the square of a centre's Den, times Star, is at most left: that is den D[i + 1], squared, and D[i + 1] by D[i], i being the row that comes behind m numbers. What is left is not below 0.
func (a aim) most(left api.Rat, m int) api.Int {
	i := a.next(m)
	times := zint.Mul(zint.Mul(a.den, a.den), zint.Mul(a.g.D[i], a.g.D[i+1]))
	square, _, _ := zint.Floor(zint.Mul(left.Num, times), left.Den)
	root, _ := zint.Root(square)
	return root
}
