package gso_test

import (
	"math"
	"math/big"
	"testing"

	"trammel/api"
	"trammel/gso"
)

// GS2.

func TestMuAndStarOfRows(t *testing.T) {
	for _, b := range bases(11) {
		mu, star, _ := schmidt(b)
		g, _ := gso.Of(b)
		for i := range b {
			for j, m := range append(mu[i], big.NewRat(1, 1)) {
				got, e := gso.Mu(g, i, j)
				wantErr(t, "Mu", e, api.OK)
				want(t, "Mu", got, m)
			}
			got, e := gso.Star(g, i)
			wantErr(t, "Star", e, api.OK)
			want(t, "Star", got, star[i])
		}
	}
}

// by is a by b.
func by(a, b api.Int) bigRat { return new(big.Rat).SetFrac(whole(a), whole(b)) }

func TestMuAndStarOfLooseData(t *testing.T) {
	for _, g := range datas(12) {
		for i := range g.L {
			for j := range i + 1 {
				m := big.NewRat(1, 1)
				if j < i {
					m = by(g.L[i][j], g.D[j+1])
				}
				got, e := gso.Mu(g, i, j)
				wantErr(t, "Mu", e, api.OK)
				want(t, "Mu", got, m)
			}
			got, e := gso.Star(g, i)
			wantErr(t, "Star", e, api.OK)
			want(t, "Star", got, by(g.D[i+1], g.D[i]))
		}
	}
}

// places are at and beyond the ends of n rows.
func places(n int) []int {
	return []int{math.MinInt, math.MinInt + 1, -2, -1, 0, 1, n - 2, n - 1, n, n + 1, math.MaxInt - 1, math.MaxInt}
}

func TestPlacesThatAreNone(t *testing.T) {
	for _, g := range datas(13) {
		n := len(g.L)
		for _, i := range places(n) {
			if i < 0 || i >= n {
				s, e := gso.Star(g, i)
				wantErr(t, "Star", e, api.ErrArg)
				none(t, "Star", s)
			}
			for _, j := range places(n) {
				if i >= 0 && i < n && j >= 0 && j <= i {
					continue
				}
				m, e := gso.Mu(g, i, j)
				wantErr(t, "Mu", e, api.ErrArg)
				none(t, "Mu", m)
			}
		}
	}
}

// TestErrGsoComesFirst: whatever the places and the other arguments are.
func TestErrGsoComesFirst(t *testing.T) {
	for _, g := range unfit() {
		for _, i := range places(2) {
			for _, j := range places(2) {
				m, e := gso.Mu(g, i, j)
				wantErr(t, "Mu", e, api.ErrGso)
				none(t, "Mu", m)
				h, e := gso.AddRow(g, i, j, num(false, 3))
				wantErr(t, "AddRow", e, api.ErrGso)
				noData(t, "AddRow", h)
			}
			s, e := gso.Star(g, i)
			wantErr(t, "Star", e, api.ErrGso)
			none(t, "Star", s)
			h, e := gso.Swap(g, i)
			wantErr(t, "Swap", e, api.ErrGso)
			noData(t, "Swap", h)
		}
		for n := range 4 {
			s, e := gso.Norm(g, make([]api.Int, n))
			wantErr(t, "Norm", e, api.ErrGso)
			none(t, "Norm", s)
		}
	}
}
