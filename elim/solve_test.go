package elim_test

import (
	"math/big"
	"math/rand"
	"slices"
	"testing"

	"trammel/api"
	"trammel/elim"
)

// P6.2, of P6.3 Inverse and Null, of P6.4 Cramer.

// lowest tells if numbers and their denominator are in lowest terms.
func lowest(den api.Int, l []api.Int) bool {
	g := whole(den)
	if g.Sign() <= 0 {
		return false
	}
	for _, a := range l {
		g.GCD(nil, nil, g, new(big.Int).Abs(whole(a)))
	}
	return g.Cmp(big.NewInt(1)) == 0
}

// times is v, each entry so many times.
func times(k api.Int, v []api.Int) []api.Int { return combined([]api.Int{k}, rows(v), len(v)) }

// checkSolve holds Solve against what ranks say of it, and its answer against the sum that it is to be.
func checkSolve(t *testing.T, b [][]api.Int, width int, v []api.Int) api.Errno {
	t.Helper()
	x, den, e := elim.Solve(b, v)
	sure := api.OK
	switch {
	case rankOf(b, width) < len(b):
		sure = api.ErrDependent
	case rankOf(append(slices.Clone(b), v), width) > len(b):
		sure = api.ErrNone
	}
	wantErr(t, "Solve", e, sure)
	if e != api.OK {
		wantVector(t, "Solve beside an error", x, nil)
		want(t, "Solve beside an error", den, new(big.Int))
		return e
	}
	if len(x) != len(b) {
		t.Fatalf("Solve: %d numbers for %d rows", len(x), len(b))
	}
	// The rows are independent: so there is no other solution.
	wantVector(t, "Solve", combined(x, b, width), times(den, v))
	if !lowest(den, x) {
		t.Errorf("Solve(%v, %v): %v by %v is not in lowest terms", b, v, x, den)
	}
	return e
}

func TestSolve(t *testing.T) {
	r := rand.New(rand.NewSource(11))
	seen := map[api.Errno]int{}
	for _, s := range samples(12) {
		seen[checkSolve(t, s.b, s.width, drawVector(r, s.width, digit))]++
		seen[checkSolve(t, s.b, s.width, drawVector(r, s.width, long(3)))]++
		seen[checkSolve(t, s.b, s.width, make([]api.Int, s.width))]++
		for _, one := range []func(r *rand.Rand) api.Int{digit, long(2)} {
			seen[checkSolve(t, s.b, s.width, combined(drawVector(r, len(s.b), one), s.b, s.width))]++
		}
	}
	for _, e := range []api.Errno{api.OK, api.ErrDependent, api.ErrNone} {
		if seen[e] < 20 {
			t.Errorf("%d times error %d", seen[e], e)
		}
	}
}

// TestSolveFindsFractions: what a vector was put together by is found again.
func TestSolveFindsFractions(t *testing.T) {
	for _, c := range []struct {
		b   [][]api.Int
		v   []api.Int
		x   []api.Int
		den int64
	}{
		{rows(vec(4)), vec(6), vec(3), 2},
		{rows(vec(-4)), vec(6), vec(-3), 2},
		{rows(vec(-4)), vec(0), vec(0), 1},
		{rows(vec(2, 4), vec(0, 6)), vec(3, 4), vec(9, -2), 6},
		{rows(vec(0, 0, 2), vec(0, 3, 0)), vec(0, 1, 1), vec(3, 2), 6},
		{rows(vec(1, 2, 3)), vec(2, 4, 6), vec(2), 1},
		{rows(vec(2, 4, 6)), vec(-1, -2, -3), vec(-1), 2},
		{rows([]api.Int{num(false, 0, 6, 0)}), []api.Int{num(true, 0, 4)}, vec(-2), 3},
	} {
		x, den, e := elim.Solve(c.b, c.v)
		wantErr(t, "Solve", e, api.OK)
		wantVector(t, "Solve", x, c.x)
		want(t, "Solve", den, big.NewInt(c.den))
	}
}

// TestSolveOfNoRows: each v is let, and only noughts are a sum of nothing.
func TestSolveOfNoRows(t *testing.T) {
	for _, v := range rows(nil, vec(), vec(0), vec(0, 0, 0), []api.Int{num(true, 0, 0), num(true)}, make([]api.Int, 65), make([]api.Int, 5000)) {
		x, den, e := elim.Solve(nil, v)
		wantErr(t, "Solve", e, api.OK)
		wantVector(t, "Solve", x, nil)
		want(t, "Solve", den, big.NewInt(1))
	}
	for _, v := range rows(vec(1), vec(0, 0, -1), append(make([]api.Int, 64), num(false, 0, 1)), append(vec(7), make([]api.Int, 5000)...)) {
		x, den, e := elim.Solve([][]api.Int{}, v)
		wantErr(t, "Solve", e, api.ErrNone)
		wantVector(t, "Solve", x, nil)
		want(t, "Solve", den, new(big.Int))
	}
}

func checkInverse(t *testing.T, b [][]api.Int) api.Errno {
	t.Helper()
	n := len(b)
	got, den, e := elim.Inverse(b)
	if rankOf(b, n) < n {
		wantErr(t, "Inverse", e, api.ErrDependent)
		wantRows(t, "Inverse beside an error", got, nil)
		want(t, "Inverse beside an error", den, new(big.Int))
		return e
	}
	wantErr(t, "Inverse", e, api.OK)
	unit := blank(n, n)
	for i := range unit {
		unit[i][i] = form(whole(den))
	}
	wantRows(t, "inverse times b", product(got, b, n), unit)
	wantRows(t, "b times inverse", product(b, got, n), unit)
	if !lowest(den, slices.Concat(got...)) {
		t.Errorf("Inverse(%v): %v by %v is not in lowest terms", b, got, den)
	}
	return e
}

func TestInverse(t *testing.T) {
	seen := map[api.Errno]int{}
	for _, b := range squares(13) {
		seen[checkInverse(t, b)]++
	}
	signs(3, func(b [][]api.Int) { seen[checkInverse(t, b)]++ })
	if seen[api.OK] < 20 || seen[api.ErrDependent] < 20 {
		t.Errorf("%v", seen)
	}
	b, den, e := elim.Inverse(nil)
	wantErr(t, "Inverse", e, api.OK)
	wantRows(t, "Inverse of no rows", b, nil)
	want(t, "Inverse of no rows", den, big.NewInt(1))
	b, den, e = elim.Inverse(rows(vec(-2, 0), vec(0, -6)))
	wantErr(t, "Inverse", e, api.OK)
	wantRows(t, "Inverse", b, rows(vec(-3, 0), vec(0, -1)))
	want(t, "Inverse", den, big.NewInt(6))
}

// checkNull holds Null against the relations that steps with fractions tell, brought into steps once more.
func checkNull(t *testing.T, b [][]api.Int, width int) {
	t.Helper()
	n := len(b)
	steps, heads := reduced(turned(b, width), n)
	relations := [][]api.Int{}
	for c := range n {
		if slices.Contains(heads, c) {
			continue
		}
		l := make([]bigRat, n)
		for i := range l {
			l[i] = new(big.Rat)
		}
		l[c].SetInt64(1)
		for i, h := range heads {
			l[h].SetFrac(whole(steps[i][c]), whole(steps[i][h]))
			l[h].Neg(l[h])
		}
		relations = append(relations, scaled(l))
	}
	sure, _ := reduced(relations, n)
	got, e := elim.Null(b)
	wantErr(t, "Null", e, api.OK)
	wantRows(t, "Null", got, sure)
	for _, x := range got {
		wantVector(t, "a row of Null", combined(x, b, width), make([]api.Int, width))
	}
}

func TestNull(t *testing.T) {
	for _, s := range samples(14) {
		checkNull(t, s.b, s.width)
	}
	signs(3, func(b [][]api.Int) { checkNull(t, b, 3) })
	signs(2, func(b [][]api.Int) { checkNull(t, append(slices.Clone(b), b...), 2) })
	got, e := elim.Null(rows(nil, nil))
	wantErr(t, "Null", e, api.OK)
	wantRows(t, "Null of rows without an entry", got, rows(vec(1, 0), vec(0, 1)))
	got, e = elim.Null(rows(vec(-4), vec(6), vec(0)))
	wantErr(t, "Null", e, api.OK)
	wantRows(t, "Null", got, rows(vec(3, 2, 0), vec(0, 0, 1)))
}

func checkCramer(t *testing.T, b [][]api.Int, v []api.Int) {
	t.Helper()
	got, d, e := elim.Cramer(b, v)
	wantErr(t, "Cramer", e, api.OK)
	want(t, "Cramer's determinant", d, detOf(b))
	if len(got) != len(b) {
		t.Fatalf("Cramer: %d numbers of %d rows", len(got), len(b))
	}
	for i, a := range got {
		// Of many rows some are enough: each takes its time.
		if len(b) < 10 || i%21 == 0 {
			want(t, "Cramer", a, detOf(put(b, i, v)))
		}
	}
}

func TestCramer(t *testing.T) {
	r := rand.New(rand.NewSource(15))
	for _, b := range squares(16) {
		checkCramer(t, b, make([]api.Int, len(b)))
		for range 3 {
			checkCramer(t, b, drawVector(r, len(b), digit))
			checkCramer(t, b, drawVector(r, len(b), long(2)))
		}
	}
	for n := range 4 {
		for range 3 {
			v := drawVector(r, n, digit)
			signs(n, func(b [][]api.Int) { checkCramer(t, b, v) })
		}
	}
	got, d, e := elim.Cramer(nil, nil)
	wantErr(t, "Cramer", e, api.OK)
	wantVector(t, "Cramer of no rows", got, nil)
	want(t, "Cramer of no rows", d, big.NewInt(1))
}
