package herm_test

import (
	"math/rand"
	"slices"
	"testing"

	"trammel/api"
	"trammel/elim"
	"trammel/herm"
	"trammel/lll"
	"trammel/mat"
	"trammel/zint"
)

// P8.6, by the program's own calls alone, and G5, as far as it is of lattices.

func TestLawOfSame(t *testing.T) {
	for _, c := range couples(41) {
		a, b := sureRows(t)(herm.Basis(c.a)), sureRows(t)(herm.Basis(c.b))
		wantIs(t, "Same", is(t)(herm.Same(c.a, c.b)), mat.Same(a, b))
		both := is(t)(herm.Within(c.a, c.b)) && is(t)(herm.Within(c.b, c.a))
		wantIs(t, "Same, by Within", is(t)(herm.Same(c.a, c.b)), both)
		wantRows(t, "Basis of Basis", sureRows(t)(herm.Basis(a)), a)
	}
}

func TestLawOfCombine(t *testing.T) {
	r := rand.New(rand.NewSource(42))
	for _, s := range samples(43) {
		v, e := mat.Combine(drawVector(r, len(s.b), long(3)), s.b)
		wantErr(t, "Combine", e, api.OK)
		wantIs(t, "Member of a sum", is(t)(herm.Member(s.b, v)), true)
		for _, x := range sureRows(t)(herm.Kernel(s.b)) {
			sum, _ := mat.Combine(x, s.b)
			wantVector(t, "what Kernel makes", sum, make([]api.Int, s.width))
		}
	}
}

// TestLawOfIndex: within Unit it is the determinant, and the product of Smith's numbers.
func TestLawOfIndex(t *testing.T) {
	regular := 0
	for _, s := range samples(44) {
		if len(s.b) != s.width {
			continue
		}
		d, e := elim.Det(s.b)
		wantErr(t, "Det", e, api.OK)
		one, _ := mat.Unit(s.width)
		n, e := herm.Index(s.b, one)
		if zint.Sign(d) == 0 {
			wantErr(t, "Index", e, api.ErrNone)
			continue
		}
		regular++
		wantErr(t, "Index", e, api.OK)
		want(t, "Index", n, whole(zint.Abs(d)))
		all := zint.Of(1)
		for _, a := range sure(t)(herm.Smith(s.b)) {
			all = zint.Mul(all, a)
		}
		want(t, "Smith's product", all, whole(n))
	}
	if regular < 20 {
		t.Errorf("%d with a determinant", regular)
	}
}

// TestLawOfChains: from the one to the other by way of a third the indices multiply.
func TestLawOfChains(t *testing.T) {
	r := rand.New(rand.NewSource(45))
	chains := 0
	for _, s := range samples(46) {
		n := len(s.b)
		mid, _ := mat.Product(drawRows(r, n, n, even), s.b)
		low, _ := mat.Product(drawRows(r, n, n, digit), mid)
		one, e := herm.Index(low, mid)
		if e != api.OK {
			continue
		}
		two, e := herm.Index(mid, s.b)
		if e != api.OK {
			continue
		}
		chains++
		all, e := herm.Index(low, s.b)
		wantErr(t, "Index", e, api.OK)
		want(t, "Index of a chain", all, whole(zint.Mul(one, two)))
	}
	if chains < 20 {
		t.Errorf("%d chains", chains)
	}
}

func TestLawOfJoinAndMeet(t *testing.T) {
	regular := 0
	for _, c := range couples(47) {
		all, common := sureRows(t)(herm.Join(c.a, c.b)), sureRows(t)(herm.Meet(c.a, c.b))
		lawsOfWithin(t, c, all, common)
		if len(c.a) != c.width || len(c.b) != c.width || det(t, c.a).Sign() == 0 || det(t, c.b).Sign() == 0 {
			continue
		}
		regular++
		both := det(t, all)
		both.Mul(both, det(t, common))
		if two := det(t, c.a); both.Cmp(two.Mul(two, det(t, c.b))) != 0 {
			t.Errorf("Join %v and Meet %v of %v and %v", all, common, c.a, c.b)
		}
	}
	if regular < 20 {
		t.Errorf("%d with determinants", regular)
	}
}

// lawsOfWithin: Meet lies within both, and both in Join; the ranks of both are those of a and b; what of a's lattice lies in b's is all of Meet.
func lawsOfWithin(t *testing.T, c couple, all, common [][]api.Int) {
	t.Helper()
	ranks := 0
	for _, l := range [][][]api.Int{c.a, c.b} {
		wantIs(t, "Within Join", is(t)(herm.Within(l, all)), true)
		wantIs(t, "Meet Within", is(t)(herm.Within(common, l)), true)
		n, _ := elim.Rank(l)
		ranks += n
	}
	if len(all)+len(common) != ranks {
		t.Errorf("Join %v and Meet %v of %v and %v", all, common, c.a, c.b)
	}
	wantIs(t, "Meet of one within the other", mat.Same(common, sureRows(t)(herm.Basis(c.a))), is(t)(herm.Within(c.a, c.b)))
	wantIs(t, "Join of one within the other", mat.Same(all, sureRows(t)(herm.Basis(c.b))), is(t)(herm.Within(c.a, c.b)))
}

// TestReducedIsOfTheSameLattice is G5, of lattices: the reduced basis, and one whose sizes alone were brought down.
func TestReducedIsOfTheSameLattice(t *testing.T) {
	r := rand.New(rand.NewSource(48))
	reduced := 0
	check := func(b [][]api.Int) {
		red, e := lll.Reduce(b)
		if e != api.OK {
			return
		}
		reduced++
		wantIs(t, "Same of Reduce", is(t)(herm.Same(b, red.B)), true)
		sizes := sureRows(t)(lll.Sizes(b))
		wantIs(t, "Same of Sizes", is(t)(herm.Same(b, sizes)), true)
		twice := slices.Clone(red.B)
		twice[0] = mat.Times(zint.Of(2), twice[0])
		wantIs(t, "Same of another", is(t)(herm.Same(b, twice)), false)
		wantIs(t, "a transform", is(t)(elim.Unimodular(red.U)), true)
	}
	for _, s := range samples(49) {
		check(s.b)
	}
	for range 5 {
		check(drawRows(r, 12, 12, digit))
		check(drawRows(r, 8, 12, long(3)))
		check(drawRows(r, 6, 6, long(8)))
	}
	if reduced < 60 {
		t.Errorf("%d were reduced", reduced)
	}
}
