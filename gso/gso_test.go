package gso_test

import (
	"math/big"
	"math/rand"
	"slices"
	"testing"

	"trammel/api"
	"trammel/gso"
)

// GS1.

// checkData looks at the calls that make data of a basis.
func checkData(t *testing.T, b [][]api.Int) {
	t.Helper()
	g := defined(t, b)
	wantErr(t, "Valid", gso.Valid(b), api.OK)
	got, e := gso.Of(b)
	wantErr(t, "Of", e, api.OK)
	wantData(t, "Of", got, g)
	got, e = gso.Wide(b)
	wantErr(t, "Wide", e, api.OK)
	wantData(t, "Wide", got, g)
}

func TestDataAreAsDefined(t *testing.T) {
	for _, b := range bases(1) {
		checkData(t, b)
	}
	r := rand.New(rand.NewSource(2))
	for range 200 {
		height := 1 + r.Intn(6)
		checkData(t, drawBasis(r, height, height+r.Intn(13-height), digit))
	}
	checkData(t, drawBasis(r, 12, 12, digit))
	checkData(t, drawBasis(r, 1, 12, long(8)))
	checkData(t, drawBasis(r, 7, 9, long(8)))
	checkData(t, drawBasis(r, 12, 12, long(8)))
}

// edge is the plain lattice's basis of 12 rows, with one number put elsewhere.
func edge(i, j int, a api.Int) [][]api.Int {
	b := make([][]api.Int, api.MaxDim)
	for k := range b {
		b[k] = make([]api.Int, api.MaxDim)
		b[k][k] = num(false, 1)
	}
	b[i][j] = a
	return b
}

func TestAtTheLimits(t *testing.T) {
	full := slices.Repeat([]uint32{top}, api.MaxBits/32)
	for _, place := range [][2]int{{0, 0}, {0, 11}, {11, 0}, {11, 11}, {5, 6}} {
		for _, a := range []api.Int{num(false, full...), num(true, full...), num(true, append(slices.Clone(full), 0, 0)...), power(255, 0)} {
			checkData(t, edge(place[0], place[1], a))
		}
		for _, a := range []api.Int{power(256, 0), power(256, 1), {Neg: true, Mag: append(slices.Clone(full), 1)}, power(1000, -1)} {
			b := edge(place[0], place[1], a)
			refuse(t, b, api.ErrBig, api.OK)
			g, _ := gso.Wide(b)
			wantData(t, "Wide", g, defined(t, b))
		}
	}
	r := rand.New(rand.NewSource(3))
	wide := drawBasis(r, 4, 5, long(40))
	g, e := gso.Wide(wide)
	wantErr(t, "Wide", e, api.OK)
	wantData(t, "Wide", g, defined(t, wide))
}

// refuse: Valid and Of answer the one error, Wide the other.
func refuse(t *testing.T, b [][]api.Int, e, wide api.Errno) {
	t.Helper()
	wantErr(t, "Valid", gso.Valid(b), e)
	g, got := gso.Of(b)
	wantErr(t, "Of", got, e)
	noData(t, "Of", g)
	g, got = gso.Wide(b)
	wantErr(t, "Wide", got, wide)
	if wide != api.OK {
		noData(t, "Wide", g)
	}
}

func TestRowsAreRefused(t *testing.T) {
	thirteen := make([]int64, 13)
	many := slices.Repeat(rows(vec(1)), 13)
	long := []api.Int{power(256, 0)}
	for _, c := range []struct {
		b       [][]api.Int
		e, wide api.Errno
	}{
		{nil, api.ErrEmpty, api.ErrEmpty},
		{[][]api.Int{}, api.ErrEmpty, api.ErrEmpty},
		{rows(nil), api.ErrDependent, api.ErrDependent},
		{rows(nil, vec()), api.ErrDependent, api.ErrDependent},
		{rows(vec(0)), api.ErrDependent, api.ErrDependent},
		{rows([]api.Int{num(true, 0, 0), {}}), api.ErrDependent, api.ErrDependent},
		{rows(vec(1), vec(2)), api.ErrDependent, api.ErrDependent},
		{rows(vec(1, 2), vec(0, 0)), api.ErrDependent, api.ErrDependent},
		{rows(vec(0, 0), vec(1, 2)), api.ErrDependent, api.ErrDependent},
		{rows(vec(1, 2, 3), vec(4, 5, 6), vec(7, 8, 9)), api.ErrDependent, api.ErrDependent},
		{rows(vec(1, 0), vec(0, 1), vec(5, 7)), api.ErrDependent, api.ErrDependent},
		{slices.Repeat(rows(nil), 12), api.ErrDependent, api.ErrDependent},
		{rows(vec(1), vec(1, 2)), api.ErrShape, api.ErrShape},
		{rows(vec(1, 2), vec(1)), api.ErrShape, api.ErrShape},
		{rows(vec(1), nil), api.ErrShape, api.ErrShape},
		{rows(nil, vec(0)), api.ErrShape, api.ErrShape},
		{rows(vec(1, 0, 0), vec(0, 1, 0), vec(0, 0, 1, 0)), api.ErrShape, api.ErrShape},
		{rows(vec(0, 0), vec(0, 0), vec(0)), api.ErrShape, api.ErrShape},
		{rows(vec(thirteen...)), api.ErrBig, api.ErrBig},
		{rows(vec(1), vec(thirteen...)), api.ErrBig, api.ErrBig},
		{rows(vec(thirteen...), vec(1)), api.ErrBig, api.ErrBig},
		{many, api.ErrBig, api.ErrBig},
		{slices.Repeat(rows(nil), 13), api.ErrBig, api.ErrBig},
		{append(slices.Clone(many), vec(1, 2)), api.ErrBig, api.ErrBig},
		{append(slices.Clone(many), long), api.ErrBig, api.ErrBig},
		{slices.Repeat(many, 5000), api.ErrBig, api.ErrBig},
		{rows(long, vec(1, 2)), api.ErrBig, api.ErrShape},
		{rows(nil, long), api.ErrBig, api.ErrShape},
		{rows(long, long), api.ErrBig, api.ErrDependent},
		{rows(long, vec(1)), api.ErrBig, api.ErrDependent},
		{rows(long), api.ErrBig, api.OK},
	} {
		refuse(t, c.b, c.e, c.wide)
	}
}

// TestDependentRows: one row is put together of others, at each place, small and long numbers.
func TestDependentRows(t *testing.T) {
	r := rand.New(rand.NewSource(4))
	for range 100 {
		height := 1 + r.Intn(5)
		one := []func(r *rand.Rand) api.Int{digit, long(3)}[r.Intn(2)]
		b := drawBasis(r, height, height+1+r.Intn(3), one)
		sum := make([]api.Int, len(b[0]))
		for j := range sum {
			n := new(big.Int)
			for i := range b {
				n.Add(n, new(big.Int).Mul(whole(b[i][j]), big.NewInt(int64(i-2))))
			}
			sum[j] = form(n)
		}
		refuse(t, slices.Insert(b, r.Intn(height+1), sum), api.ErrDependent, api.ErrDependent)
	}
}
