package herm_test

import (
	"math/big"
	"math/rand"
	"slices"
	"testing"

	"trammel/api"
	"trammel/herm"
	"trammel/mat"
)

// P8.5.

// TestSmithByMinors: the product of the first k numbers is what divides all determinants of k rows and columns.
func TestSmithByMinors(t *testing.T) {
	for _, s := range samples(31) {
		if len(s.b) < 5 {
			wantVector(t, "Smith", sure(t)(herm.Smith(s.b)), smith(s.b, s.width))
		}
	}
	one := func(b [][]api.Int) {
		wantVector(t, "Smith", sure(t)(herm.Smith(b)), smith(b, len(b[0])))
	}
	boxes(1, 1, 9, one)
	boxes(2, 2, 3, one)
	boxes(2, 3, 1, one)
	boxes(3, 2, 1, one)
}

// changed is a matrix to which rows and columns of b have come.
func changed(r *rand.Rand, b [][]api.Int, steps int) [][]api.Int {
	over, _ := mat.Turn(twisted(r, b, steps))
	back, _ := mat.Turn(twisted(r, over, steps))
	return back
}

// TestSmithOfKnown: rows and columns of known numbers, shuffled.
func TestSmithOfKnown(t *testing.T) {
	r := rand.New(rand.NewSource(32))
	for _, l := range [][]int64{
		{1}, {7}, {1, 1, 1}, {2, 2, 2}, {1, 2, 4, 8, 16}, {1, 1, 6, 6, 12, 360}, {3, 3, 3, 3, 3, 9}, {5, 10, 10, 5 << 40},
		slices.Concat(slices.Repeat([]int64{1}, 20), []int64{2, 2, 6, 12, 12, 1 << 20 * 3}),
	} {
		want := vec(l...)
		for _, more := range []int{0, 1, 5} {
			b := append(diag(l...), blank(more, len(l))...)
			got := sure(t)(herm.Smith(changed(r, b, 6*len(l))))
			wantVector(t, "Smith", got, want)
			over, _ := mat.Turn(b)
			got = sure(t)(herm.Smith(changed(r, over, 6*len(l))))
			wantVector(t, "Smith turned", got, want)
		}
	}
}

// TestSmithOfDiagonals: numbers in any order, of which none need divide another.
func TestSmithOfDiagonals(t *testing.T) {
	for _, c := range []struct{ l, want []int64 }{
		{[]int64{6, 4}, []int64{2, 12}}, {[]int64{2, 3, 5}, []int64{1, 1, 30}}, {[]int64{8, 4, 2}, []int64{2, 4, 8}}, {[]int64{-6, 0, 10, 0, -15}, []int64{1, 30, 30}},
		{[]int64{0, 0}, nil}, {[]int64{-1}, []int64{1}}, {[]int64{12, 18, 8, 27}, []int64{1, 6, 36, 216}},
	} {
		wantVector(t, "Smith", sure(t)(herm.Smith(diag(c.l...))), vec(c.want...))
	}
}

func TestSmithAtTheEdges(t *testing.T) {
	for _, b := range [][][]api.Int{nil, rows(), rows(nil), blank(64, 0), blank(64, 64), blank(3, 2)} {
		wantVector(t, "Smith", sure(t)(herm.Smith(b)), nil)
	}
	wantVector(t, "Smith", sure(t)(herm.Smith(unit(64))), vec(slices.Repeat([]int64{1}, 64)...))
	r := rand.New(rand.NewSource(33))
	l := make([]int64, 64)
	for i := range l {
		l[i] = 1 << (i / 3)
	}
	wantVector(t, "Smith", sure(t)(herm.Smith(changed(r, diag(l...), 200))), vec(l...))
	b := drawRows(r, 64, 64, even)
	got := sure(t)(herm.Smith(b))
	all := big.NewInt(1)
	for i, a := range got {
		if i > 0 && new(big.Int).Mod(whole(a), whole(got[i-1])).Sign() != 0 {
			t.Errorf("Smith: %v", got)
		}
		all.Mul(all, whole(a))
	}
	if all.Cmp(det(t, b)) != 0 {
		t.Errorf("Smith of 64 rows: %v", got)
	}
}
