package gso

import (
	"trammel/api"
	"trammel/zint"
)

// AddRow: the data behind the row i has grown by q times the row j; ErrGso; ErrArg, if it is not 0 <= j < i, or there is no row i.
func AddRow(g api.Gso, i, j int, q api.Int) (api.Gso, api.Errno) {
	switch {
	case !mayBe(g):
		return api.Gso{}, api.ErrGso
	case j < 0 || j >= i || i >= len(g.L):
		return api.Gso{}, api.ErrArg
	}
	h := handedOn(g, i)
	row := renewed(g.L[i])
	for k, a := range g.L[j] {
		row[k] = zint.Add(row[k], zint.Mul(q, a))
	}
	// In itself b(j) has b*(j) once.
	row[j] = zint.Add(row[j], zint.Mul(q, g.D[j+1]))
	h.L[i] = row
	return h, api.OK
}

// Swap: the data behind the rows i - 1 and i were exchanged; ErrGso; ErrArg, if it is not 1 <= i, or there is no row i; ErrGso, if the new D[i] is not above 0.
func Swap(g api.Gso, i int) (api.Gso, api.Errno) {
	switch {
	case !mayBe(g):
		return api.Gso{}, api.ErrGso
	case i < 1 || i >= len(g.L):
		return api.Gso{}, api.ErrArg
	}
	x := exchange{d: g.D[i-1], e: g.D[i], f: g.D[i+1], l: g.L[i][i-1]}
	middle := x.middle()
	if zint.Sign(middle) <= 0 {
		return api.Gso{}, api.ErrGso
	}
	h := handedOn(g, i)
	h.D[i] = middle
	h.L[i] = append(h.L[i-1], zint.Form(x.l))
	h.L[i-1] = renewed(g.L[i][:i-1])
	for _, row := range h.L[i+1:] {
		row[i-1], row[i] = x.pair(row[i-1], row[i])
	}
	return h, api.OK
}

// exchange is the old numbers by which the rows i - 1 and i are exchanged: D[i - 1], D[i], D[i + 1] and L[i][i - 1].
type exchange struct {
	d, e, f, l api.Int
}

// middle is the new D[i].
func (x exchange) middle() api.Int {
	return x.share(zint.Add(zint.Mul(x.d, x.f), zint.Mul(x.l, x.l)))
}

// pair is, of a row behind i, the new numbers of which the old ones are p and q.
func (x exchange) pair(p, q api.Int) (api.Int, api.Int) {
	first := zint.Add(zint.Mul(x.d, q), zint.Mul(x.l, p))
	second := zint.Sub(zint.Mul(x.f, p), zint.Mul(x.l, q))
	return x.share(first), x.share(second)
}

// share is a by e, rounded down: of data that no rows have it need not come out even.
func (x exchange) share(a api.Int) api.Int {
	q, _, _ := zint.Floor(a, x.e)
	return q
}
