package lll

import (
	"trammel/api"
	"trammel/gso"
	"trammel/mat"
	"trammel/zint"
)

// work is a basis on its way: its rows b, the transform u to them from the first ones, the transform back, and the data of the rows.
type work struct {
	b, u [][]api.Int
	// back is the transform back, its columns as rows: so a change of b's rows is one of rows here too.
	back  [][]api.Int
	g     api.Gso
	swaps []int
	// most is how many exchanges are wanted.
	most int
}

// begin is the work ahead of all steps; gso.Valid's error.
func begin(b [][]api.Int, most int) (*work, api.Errno) {
	g, e := gso.Of(b)
	if e != api.OK {
		return nil, e
	}
	u, _ := mat.Unit(len(b))
	back, _ := mat.Unit(len(b))
	return &work{b: mat.Form(b), u: u, back: back, g: g, most: most}, api.OK
}

// course is how it goes on behind a step.
type course int

const (
	onward course = iota
	backward
	enough
)

// along goes along the rows from the second one on, up and down as the steps say, till there is no row ahead or a step has had enough.
func along(rows int, step func(k int) course) {
	k := 1
steps:
	for k < rows {
		switch step(k) {
		case onward:
			k++
			continue steps
		case enough:
			break steps
		}
		k = max(k-1, 1)
	}
}

// step gives the row k its sizes, and exchanges it with the one ahead, if the step of k does not hold.
func (w *work) step(k int) course {
	w.size(k)
	switch {
	case holds(w.g, k):
		return onward
	case len(w.swaps) == w.most:
		return enough
	}
	w.exchange(k)
	return backward
}

// sizedStep gives the row k its sizes, and exchanges nothing.
func (w *work) sizedStep(k int) course {
	w.size(k)
	return onward
}

// size gives the row k its sizes.
func (w *work) size(k int) {
	for j := k - 1; j >= 0; j-- {
		q := near(w.g, k, j)
		if zint.Sign(q) != 0 {
			w.lose(k, j, q)
		}
	}
}

// lose takes q times the row j from the row k.
func (w *work) lose(k, j int, q api.Int) {
	less := zint.Neg(q)
	w.b[k] = grown(w.b[k], less, w.b[j])
	w.u[k] = grown(w.u[k], less, w.u[j])
	w.back[j] = grown(w.back[j], q, w.back[k])
	w.g, _ = gso.AddRow(w.g, k, j, less)
}

// grown is u and q times v; both are of one length.
func grown(u []api.Int, q api.Int, v []api.Int) []api.Int {
	out, _ := mat.Plus(u, mat.Times(q, v))
	return out
}

// exchange exchanges the rows k - 1 and k.
func (w *work) exchange(k int) {
	for _, m := range [][][]api.Int{w.b, w.u, w.back} {
		m[k-1], m[k] = m[k], m[k-1]
	}
	w.g, _ = gso.Swap(w.g, k)
	w.swaps = append(w.swaps, k)
}

// reduced tells if rows of these data are reduced.
func reduced(g api.Gso) bool {
	for k := range g.L {
		if !sized(g, k) || k > 0 && !holds(g, k) {
			return false
		}
	}
	return true
}

// sized tells if the row k has its sizes.
func sized(g api.Gso, k int) bool {
	for j := range k {
		if zint.Sign(near(g, k, j)) != 0 {
			return false
		}
	}
	return true
}

// near is the whole number nearest to mu(k, j); that is 0 just where the size is right, as of two as near the greater one counts.
func near(g api.Gso, k, j int) api.Int {
	q, _ := zint.Near(g.L[k][j], g.D[j+1])
	return q
}

// holds tells if the step of k holds: its two sides are here four times D[k] D[k - 1] as great, and so whole numbers.
func holds(g api.Gso, k int) bool {
	d, l := g.D, g.L[k][k-1]
	right := zint.Add(zint.Mul(d[k+1], d[k-1]), zint.Mul(l, l))
	return zint.Compare(zint.Mul(zint.Of(3), zint.Mul(d[k], d[k])), zint.Mul(zint.Of(4), right)) <= 0
}
