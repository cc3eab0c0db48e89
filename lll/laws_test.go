package lll_test

import (
	"math/big"
	"math/rand"
	"slices"
	"testing"

	"trammel/api"
	"trammel/gso"
	"trammel/lll"
	"trammel/mat"
	"trammel/zint"
)

// LL4.

func TestWhatComesIsReduced(t *testing.T) {
	for _, b := range slices.Concat(bases(41), great(42)) {
		r, e := lll.Reduce(b)
		wantErr(t, "Reduce", e, api.OK)
		checkTransforms(t, b, r)
		if !isReduced(wholes(r.B)) {
			t.Errorf("Reduce(%v): %v is not reduced", wholes(b), wholes(r.B))
		}
	}
}

// TestTheProductOfTheDFalls: by a quarter at least at each exchange, and sizes leave it as it was.
func TestTheProductOfTheDFalls(t *testing.T) {
	for _, b := range slices.Concat(bases(43), great(44)) {
		r, _ := lll.Reduce(b)
		first, last := volume(wholes(b)), volume(wholes(r.B))
		power := func(n int64) bigRat {
			return new(big.Rat).SetInt(new(big.Int).Exp(big.NewInt(n), big.NewInt(int64(r.Swaps)), nil))
		}
		if last.Mul(last, power(4)).Cmp(first.Mul(first, power(3))) > 0 {
			t.Errorf("Reduce(%v): too many exchanges: %d", wholes(b), r.Swaps)
		}
		sized, _ := lll.Sizes(b)
		if volume(wholes(sized)).Cmp(volume(wholes(b))) != 0 {
			t.Errorf("Sizes(%v): other data", wholes(b))
		}
	}
}

// TestWhatIsReducedStays: it comes out as it was, with no exchange.
func TestWhatIsReducedStays(t *testing.T) {
	for _, b := range slices.Concat(bases(45), great(46)) {
		r, _ := lll.Reduce(b)
		if mat.Bits(r.B) > api.MaxBits {
			continue
		}
		again, e := lll.Reduce(r.B)
		wantErr(t, "Reduce", e, api.OK)
		wantRows(t, "B", again.B, r.B)
		wantRows(t, "U", again.U, unit(len(b)))
		wantRows(t, "V", again.V, unit(len(b)))
		if again.Swaps != 0 {
			t.Errorf("%d exchanges of what is reduced", again.Swaps)
		}
		sized, e := lll.Sizes(r.B)
		wantErr(t, "Sizes", e, api.OK)
		wantRows(t, "Sizes", sized, r.B)
		told, e := lll.Steps(r.B, maxTold)
		wantErr(t, "Steps", e, api.OK)
		if len(told) != 0 {
			t.Errorf("Steps of what is reduced: %v", told)
		}
	}
}

// TestTheFirstRowIsShort: it is at most 2^(n - 1) times as long, squared, as each vector of the lattice, of which the nearest ones are tried here.
func TestTheFirstRowIsShort(t *testing.T) {
	for _, b := range bases(47) {
		if len(b) > 4 {
			continue
		}
		r, _ := lll.Reduce(b)
		first := mat.Norm(r.B[0])
		bound := zint.Of(1 << (len(b) - 1))
		g, _ := gso.Wide(r.B)
		everyVector(len(b), 2, func(x []api.Int) {
			n, e := gso.Norm(g, x)
			wantErr(t, "Norm", e, api.OK)
			if zint.Compare(first, zint.Mul(bound, n.Num)) > 0 {
				t.Errorf("Reduce(%v): the first row is longer than %v allows", wholes(b), x)
			}
		})
	}
}

// everyVector calls f with all lists of n numbers from -most to most that are not all 0.
func everyVector(n int, most int64, f func(x []api.Int)) {
	everyBasis(1, n, most, func(b [][]api.Int) { f(b[0]) })
}

// TestTheLatticeStays: two bases of one lattice have the same last D.
func TestTheLatticeStays(t *testing.T) {
	for _, b := range slices.Concat(bases(48), great(49)) {
		r, _ := lll.Reduce(b)
		sized, _ := lll.Sizes(b)
		g, _ := gso.Of(b)
		for _, c := range [][][]api.Int{r.B, sized} {
			h, e := gso.Wide(c)
			wantErr(t, "Wide", e, api.OK)
			if zint.Compare(g.D[len(b)], h.D[len(b)]) != 0 {
				t.Errorf("another lattice: %v and %v", wholes(b), wholes(c))
			}
		}
	}
}

// TestAPlainLatticeIsFoundAgain: this one comes out with rows of the length 1, though its basis was twisted far.
func TestAPlainLatticeIsFoundAgain(t *testing.T) {
	r, e := lll.Reduce(twisted(rand.New(rand.NewSource(50)), unit(12), 100))
	wantErr(t, "Reduce", e, api.OK)
	for _, row := range r.B {
		if zint.Compare(mat.Norm(row), zint.Of(1)) != 0 {
			t.Errorf("a row of another length: %v", row)
		}
	}
	if r.Swaps < 100 {
		t.Errorf("%d exchanges", r.Swaps)
	}
}
