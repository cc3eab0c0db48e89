package gso_test

import (
	"math/big"
	"math/rand"
	"slices"
	"testing"

	"trammel/api"
	"trammel/gso"
)

// GS3, and of GS6 that the data of the changed rows are what is told.

// factors are what a row may be taken times.
func factors(r *rand.Rand) []api.Int {
	return []api.Int{{}, num(true, 0), num(false, 1), num(true, 1, 0), small(-5), draw(r, 4)}
}

func TestAddRowIsOfTheChangedRows(t *testing.T) {
	r := rand.New(rand.NewSource(21))
	for _, b := range bases(22) {
		g, _ := gso.Of(b)
		for i := range b {
			for j := range i {
				for _, q := range factors(r) {
					h, e := gso.AddRow(g, i, j, q)
					wantErr(t, "AddRow", e, api.OK)
					wantData(t, "AddRow", h, defined(t, grown(b, i, j, q)))
				}
			}
		}
	}
}

// grown is the rows when the row i has grown by q times the row j.
func grown(b [][]api.Int, i, j int, q api.Int) [][]api.Int {
	out := slices.Clone(b)
	out[i] = slices.Clone(b[i])
	for k := range out[i] {
		n := new(big.Int).Mul(whole(q), whole(b[j][k]))
		out[i][k] = form(n.Add(n, whole(b[i][k])))
	}
	return out
}

func TestSwapIsOfTheChangedRows(t *testing.T) {
	for _, b := range bases(23) {
		g, _ := gso.Of(b)
		for i := 1; i < len(b); i++ {
			c := slices.Clone(b)
			c[i-1], c[i] = c[i], c[i-1]
			h, e := gso.Swap(g, i)
			wantErr(t, "Swap", e, api.OK)
			wantData(t, "Swap", h, defined(t, c))
			back, e := gso.Swap(h, i)
			wantErr(t, "Swap", e, api.OK)
			wantData(t, "Swap twice", back, g)
		}
	}
}

// inForm is the data anew, each number in one form.
func inForm(g api.Gso) api.Gso {
	list := func(l []api.Int) []api.Int {
		out := []api.Int{}
		for _, a := range l {
			out = append(out, form(whole(a)))
		}
		return out
	}
	h := api.Gso{D: list(g.D)}
	for _, row := range g.L {
		h.L = append(h.L, list(row))
	}
	return h
}

// ruled is what the rule of AddRow says, word by word.
func ruled(g api.Gso, i, j int, q api.Int) api.Gso {
	h := inForm(g)
	grow := func(k int, by api.Int) {
		n := new(big.Int).Mul(whole(q), whole(by))
		h.L[i][k] = form(n.Add(n, whole(g.L[i][k])))
	}
	grow(j, g.D[j+1])
	for k := range j {
		grow(k, g.L[j][k])
	}
	return h
}

// swapped is what the rule of Swap says, word by word; false, if the new D[i] is not above 0.
func swapped(g api.Gso, i int) (api.Gso, bool) {
	h := inForm(g)
	d, e, f, l := whole(g.D[i-1]), whole(g.D[i]), whole(g.D[i+1]), whole(g.L[i][i-1])
	// The library's Div rounds down, if the divisor is above 0.
	floor := func(a, b, c, d bigInt, sign int64) bigInt {
		n := new(big.Int).Mul(c, d)
		n.Mul(n, big.NewInt(sign)).Add(n, new(big.Int).Mul(a, b))
		return n.Div(n, e)
	}
	h.D[i] = form(floor(d, f, l, l, 1))
	for j := range i - 1 {
		h.L[i-1][j], h.L[i][j] = h.L[i][j], h.L[i-1][j]
	}
	for k := i + 1; k < len(g.L); k++ {
		p, q := whole(g.L[k][i-1]), whole(g.L[k][i])
		h.L[k][i-1], h.L[k][i] = form(floor(d, q, l, p, 1)), form(floor(f, p, l, q, -1))
	}
	return h, whole(h.D[i]).Sign() > 0
}

// TestChangesOfLooseData: the rules hold also where a division does not come out even.
func TestChangesOfLooseData(t *testing.T) {
	r := rand.New(rand.NewSource(24))
	kept, refused := 0, 0
	for range 20 {
		for _, g := range datas(r.Int63()) {
			for i := range g.L {
				for j := range i {
					for _, q := range factors(r) {
						h, e := gso.AddRow(g, i, j, q)
						wantErr(t, "AddRow", e, api.OK)
						wantData(t, "AddRow", h, ruled(g, i, j, q))
					}
				}
				if i == 0 {
					continue
				}
				h, e := gso.Swap(g, i)
				if sure, ok := swapped(g, i); ok {
					kept++
					wantErr(t, "Swap", e, api.OK)
					wantData(t, "Swap", h, sure)
				} else {
					refused++
					wantErr(t, "Swap", e, api.ErrGso)
					noData(t, "Swap", h)
				}
			}
		}
	}
	if kept == 0 || refused == 0 {
		t.Errorf("%d kept, %d refused", kept, refused)
	}
}

func TestSwapRefusesANewDOfNought(t *testing.T) {
	for _, c := range []struct {
		e, f, l int64
		d       int64
	}{{5, 1, 2, 1}, {6, 1, 2, 0}, {6, 1, -2, 0}, {2, 1, 0, 0}, {1, 1, 0, 1}, {100, 99, 0, 0}, {100, 99, 1, 1}} {
		h, e := gso.Swap(api.Gso{D: vec(1, c.e, c.f), L: rows(nil, vec(c.l))}, 1)
		if c.d == 0 {
			wantErr(t, "Swap", e, api.ErrGso)
			noData(t, "Swap", h)
			continue
		}
		wantErr(t, "Swap", e, api.OK)
		wantData(t, "Swap", h, api.Gso{D: vec(1, c.d, c.f), L: rows(nil, vec(c.l))})
	}
}

func TestChangesAtPlacesThatAreNone(t *testing.T) {
	for _, g := range datas(25) {
		n := len(g.L)
		for _, i := range places(n) {
			if i < 1 || i >= n {
				h, e := gso.Swap(g, i)
				wantErr(t, "Swap", e, api.ErrArg)
				noData(t, "Swap", h)
			}
			for _, j := range places(n) {
				if i >= 0 && i < n && j >= 0 && j < i {
					continue
				}
				h, e := gso.AddRow(g, i, j, num(false, 2))
				wantErr(t, "AddRow", e, api.ErrArg)
				noData(t, "AddRow", h)
			}
		}
	}
}
