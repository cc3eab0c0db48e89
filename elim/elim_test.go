package elim_test

import (
	"math/big"
	"math/rand"
	"slices"
	"testing"

	"trammel/api"
	"trammel/elim"
)

// P6.1, of P6.3 Unimodular, of P6.4 Minors.

// checkDet holds Det, Unimodular and Minors of a square against the definition.
func checkDet(t *testing.T, b [][]api.Int) {
	t.Helper()
	d, e := elim.Det(b)
	wantErr(t, "Det", e, api.OK)
	sure := laplace(b)
	want(t, "Det", d, sure)
	is, e := elim.Unimodular(b)
	wantErr(t, "Unimodular", e, api.OK)
	if is != (sure.CmpAbs(big.NewInt(1)) == 0) {
		t.Errorf("Unimodular(%v): %v", b, is)
	}
	minors, e := elim.Minors(b)
	wantErr(t, "Minors", e, api.OK)
	if len(minors) != len(b) {
		t.Fatalf("%d Minors of %d rows", len(minors), len(b))
	}
	for k, m := range minors {
		want(t, "Minors", m, laplace(square(b, k+1)))
	}
}

func TestDeterminants(t *testing.T) {
	for _, b := range squares(1) {
		checkDet(t, b)
	}
	for n := range 4 {
		signs(n, func(b [][]api.Int) { checkDet(t, b) })
	}
	r := rand.New(rand.NewSource(2))
	for range 300 {
		// Many noughts: heads are to be fetched from far below.
		checkDet(t, drawRows(r, 5, 5, func(r *rand.Rand) api.Int { return small(int64(r.Intn(9) / 3 * (r.Intn(3) - 1))) }))
	}
	checkDet(t, rows([]api.Int{num(true, 0, 0), num(true, 1, 0)}, []api.Int{num(false, 1, 0, 0), num(true)}))
	checkDet(t, drawRows(r, 6, 6, long(8)))
}

// TestUnimodular of products of steps that all are.
func TestUnimodular(t *testing.T) {
	r := rand.New(rand.NewSource(3))
	for n := range 8 {
		b := blank(n, n)
		for i := range b {
			b[i][i] = small(int64(1 - 2*r.Intn(2)))
		}
		for range 3 * n {
			i, j := r.Intn(n), r.Intn(n)
			if i != j {
				b[i] = combined([]api.Int{small(1), draw(r, 1)}, rows(b[i], b[j]), n)
			}
		}
		is, e := elim.Unimodular(b)
		wantErr(t, "Unimodular", e, api.OK)
		if !is {
			t.Errorf("Unimodular(%v): false", b)
		}
		checkDet(t, b)
		if n > 0 {
			b[0] = combined(vec(2), b[:1], n)
			is, e = elim.Unimodular(b)
			wantErr(t, "Unimodular", e, api.OK)
			if is {
				t.Errorf("Unimodular(%v): true", b)
			}
		}
	}
	for d, is := range map[int64]bool{-2: false, -1: true, 0: false, 1: true, 2: false, 1 << 32: false, 1<<32 + 1: false} {
		if got, _ := elim.Unimodular(rows(vec(d))); got != is {
			t.Errorf("Unimodular of %d: %v", d, got)
		}
	}
}

// checkSteps holds Rank and Steps against steps with fractions.
func checkSteps(t *testing.T, b [][]api.Int, width int) {
	t.Helper()
	sure, heads := reduced(b, width)
	n, e := elim.Rank(b)
	wantErr(t, "Rank", e, api.OK)
	if n != len(heads) {
		t.Errorf("Rank(%v): %d instead of %d", b, n, len(heads))
	}
	got, at, e := elim.Steps(b)
	wantErr(t, "Steps", e, api.OK)
	wantRows(t, "Steps", got, sure)
	if !slices.Equal(at, heads) {
		t.Errorf("Steps(%v): heads %v instead of %v", b, at, heads)
	}
}

func TestSteps(t *testing.T) {
	for _, s := range samples(4) {
		checkSteps(t, s.b, s.width)
	}
	signs(3, func(b [][]api.Int) { checkSteps(t, b, 3) })
	signs(2, func(b [][]api.Int) { checkSteps(t, append(slices.Clone(b), b...), 2) })
	checkSteps(t, rows(vec(0, 0, -6, 4), vec(0, 0, 9, -6), vec(0, 0, 0, 0)), 4)
	checkSteps(t, rows(vec(0, 0, 0, -5)), 4)
	checkSteps(t, rows([]api.Int{num(true, 0), num(true, 6, 0), num(false, 0, 2, 0)}), 3)
}

// TestSidesAtTheLimit: 64 rows and entries are let.
func TestSidesAtTheLimit(t *testing.T) {
	r := rand.New(rand.NewSource(5))
	for _, b := range [][][]api.Int{
		drawRows(r, 64, 64, digit), thin(r, 64, 64, 20, digit), thin(r, 64, 64, 63, digit), blank(64, 64),
		drawRows(r, 1, 64, long(2)), drawRows(r, 64, 1, long(2)), drawRows(r, 20, 64, digit), drawRows(r, 64, 20, digit), blank(64, 0),
	} {
		checkSteps(t, b, len(b[0]))
		checkNull(t, b, len(b[0]))
		if len(b[0]) != 64 || len(b) != 64 {
			continue
		}
		d, e := elim.Det(b)
		wantErr(t, "Det", e, api.OK)
		want(t, "Det", d, detOf(b))
		minors, e := elim.Minors(b)
		wantErr(t, "Minors", e, api.OK)
		for _, k := range []int{1, 2, 3, 30, 63, 64} {
			want(t, "Minors", minors[k-1], detOf(square(b, k)))
		}
		checkInverse(t, b)
		checkSolve(t, b, 64, drawVector(r, 64, digit))
		checkCramer(t, b, drawVector(r, 64, digit))
	}
}
