package filter

import (
	"trammel/api"
	"trammel/ival"
)

// step takes a row more into an interval: shifts are those of the suffix that this row ends, and norm is the interval of what is ahead of it there.
type step func(shifts []api.Ival, norm api.Ival) api.Ival

// row is what a row's step needs of the data.
type row struct {
	star api.Ival
	mu   []api.Ival // of the rows behind it, the next one first
}

func rowOf(g api.Gso, i int) row {
	r := row{star: about(g.D[i+1], g.D[i])}
	for _, l := range g.L[i+1:] {
		r.mu = append(r.mu, about(l[i], g.D[i+1]))
	}
	return r
}

// taken is the row's step. No interval here may not be, so that none is refused.
func (r row) taken(shifts []api.Ival, norm api.Ival) api.Ival {
	own := len(r.mu)
	w := shifts[own]
	for k, mu := range r.mu {
		p, _ := ival.Mul(shifts[own-1-k], mu)
		w, _ = ival.Add(w, p)
	}
	w, _ = ival.Sqr(w)
	w, _ = ival.Mul(w, r.star)
	norm, _ = ival.Add(norm, w)
	return norm
}

// about is the interval of num by den, which is above 0. It hangs on the number alone, so lowest terms are not asked for.
func about(num, den api.Int) api.Ival {
	out, _ := ival.OfRat(api.Rat{Num: num, Den: den})
	return out
}
