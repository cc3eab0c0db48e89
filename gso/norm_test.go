package gso_test

import (
	"math/big"
	"math/rand"
	"testing"

	"trammel/api"
	"trammel/gso"
)

// GS4, and of GS6 that Norm is the dot product of the sum with itself.

// sumOf is the sum of the rows, each as many times as x says.
func sumOf(x []bigRat, b [][]api.Int) []bigRat {
	sum := make([]bigRat, len(b[0]))
	for j := range sum {
		sum[j] = new(big.Rat)
	}
	for i, row := range b {
		sum = less(sum, new(big.Rat).Neg(x[i]), rationals(row))
	}
	return sum
}

func TestNormOfRows(t *testing.T) {
	r := rand.New(rand.NewSource(31))
	for _, b := range bases(32) {
		g, _ := gso.Of(b)
		for _, x := range [][]api.Int{make([]api.Int, len(b)), drawVector(r, len(b), digit), drawVector(r, len(b), digit), drawVector(r, len(b), long(4))} {
			n, e := gso.Norm(g, x)
			wantErr(t, "Norm", e, api.OK)
			v := sumOf(rationals(x), b)
			want(t, "Norm", n, dot(v, v))
		}
	}
}

// normRuled is what the rule says, word by word.
func normRuled(g api.Gso, x []api.Int) bigRat {
	sum := new(big.Rat)
	for i := range x {
		s := ratOf(whole(x[i]))
		for j := i + 1; j < len(x); j++ {
			s.Add(s, new(big.Rat).Mul(ratOf(whole(x[j])), by(g.L[j][i], g.D[i+1])))
		}
		s.Mul(s, s)
		sum.Add(sum, s.Mul(s, by(g.D[i+1], g.D[i])))
	}
	return sum
}

func TestNormOfLooseData(t *testing.T) {
	r := rand.New(rand.NewSource(33))
	for _, g := range datas(34) {
		for _, x := range [][]api.Int{make([]api.Int, len(g.L)), drawVector(r, len(g.L), digit), drawVector(r, len(g.L), long(4))} {
			n, e := gso.Norm(g, x)
			wantErr(t, "Norm", e, api.OK)
			want(t, "Norm", n, normRuled(g, x))
		}
	}
}

func TestNormRefuses(t *testing.T) {
	for _, g := range datas(35) {
		for n := range len(g.L) + 3 {
			if n == len(g.L) {
				continue
			}
			s, e := gso.Norm(g, make([]api.Int, n))
			wantErr(t, "Norm", e, api.ErrShape)
			none(t, "Norm", s)
		}
	}
}
