package herm_test

import (
	"math/big"
	"math/rand"
	"slices"
	"testing"

	"trammel/api"
	"trammel/elim"
	"trammel/herm"
)

// Join and Meet of P8.4.

func checkBoth(t *testing.T, a, b [][]api.Int, width int) {
	t.Helper()
	all := basis(slices.Concat(a, b), width)
	wantRows(t, "Join", sureRows(t)(herm.Join(a, b)), all)
	wantRows(t, "Join", sureRows(t)(herm.Join(b, a)), all)
	common := meet(a, b, width)
	wantRows(t, "Meet", sureRows(t)(herm.Meet(a, b)), common)
	wantRows(t, "Meet", sureRows(t)(herm.Meet(b, a)), common)
}

func TestBothOfCouples(t *testing.T) {
	for _, c := range couples(21) {
		checkBoth(t, c.a, c.b, c.width)
	}
}

func TestBothOfAllSmall(t *testing.T) {
	all := [][][]api.Int{}
	boxes(2, 2, 1, func(b [][]api.Int) { all = append(all, rows(slices.Clone(b[0]), slices.Clone(b[1]))) })
	all = append(all, diag(2, 3), diag(4, 6), rows(vec(2, 1), vec(0, 6)), rows(vec(2, -4)), rows(vec(-3, 6)))
	for _, a := range all {
		for _, b := range all {
			checkBoth(t, a, b, 2)
		}
	}
	for a := range int64(13) {
		for b := range int64(13) {
			checkBoth(t, rows(vec(-a)), rows(vec(b)), 1)
		}
	}
}

// TestMeetByMembers: what belongs to both belongs to Meet, and nothing else, by the vectors of a box.
func TestMeetByMembers(t *testing.T) {
	r := rand.New(rand.NewSource(22))
	for range 30 {
		a, b := drawRows(r, 1+r.Intn(3), 2, digit), drawRows(r, 1+r.Intn(3), 2, digit)
		common := sureRows(t)(herm.Meet(a, b))
		boxes(1, 2, 6, func(v [][]api.Int) {
			wantIs(t, "Member of Meet", is(t)(herm.Member(common, v[0])), member(a, v[0]) && member(b, v[0]))
		})
	}
}

// TestBothWithNothing: no rows go with all matrices.
func TestBothWithNothing(t *testing.T) {
	b := rows(vec(0, 4, 6), vec(0, 0, 0), vec(0, 6, 4))
	for _, none := range [][][]api.Int{nil, rows(), blank(2, 3)} {
		wantRows(t, "Join", sureRows(t)(herm.Join(none, b)), basis(b, 3))
		wantRows(t, "Join", sureRows(t)(herm.Join(b, none)), basis(b, 3))
		wantRows(t, "Meet", sureRows(t)(herm.Meet(none, b)), nil)
		wantRows(t, "Meet", sureRows(t)(herm.Meet(b, none)), nil)
	}
	for _, a := range [][][]api.Int{nil, rows(nil), blank(64, 0)} {
		wantRows(t, "Join", sureRows(t)(herm.Join(a, rows(nil))), nil)
		wantRows(t, "Meet", sureRows(t)(herm.Meet(a, rows(nil))), nil)
		wantRows(t, "Join", sureRows(t)(herm.Join(a, nil)), nil)
		wantRows(t, "Meet", sureRows(t)(herm.Meet(a, nil)), nil)
	}
}

// TestBothAtTheLimit: what both calls answer, by what is known of it. Two of 64 rows have 128 rows together.
func TestBothAtTheLimit(t *testing.T) {
	r := rand.New(rand.NewSource(23))
	for _, one := range []func(r *rand.Rand) api.Int{digit, even} {
		a, b := drawRows(r, 64, 64, one), drawRows(r, 64, 64, one)
		all, common := sureRows(t)(herm.Join(a, b)), sureRows(t)(herm.Meet(a, b))
		for _, l := range [][][]api.Int{a, b} {
			wantIs(t, "Within Join", is(t)(herm.Within(l, all)), true)
			wantIs(t, "Within Meet", is(t)(herm.Within(common, l)), true)
		}
		// So far as the one is too great, the other is too small.
		both := new(big.Int).Mul(det(t, all), det(t, common))
		if both.Cmp(new(big.Int).Mul(det(t, a), det(t, b))) != 0 {
			t.Errorf("Join and Meet of 64 rows: %v", both)
		}
	}
}

// det is the magnitude of the determinant.
func det(t *testing.T, b [][]api.Int) bigInt {
	t.Helper()
	d, e := elim.Det(b)
	wantErr(t, "Det", e, api.OK)
	return new(big.Int).Abs(whole(d))
}

// TestBothOfUnlikeSpaces: of many columns, where neither spans all, and what they have in common is known.
func TestBothOfUnlikeSpaces(t *testing.T) {
	r := rand.New(rand.NewSource(24))
	for _, n := range []int{3, 9, 30, 64} {
		a, b := blank(n, n), blank(n, n)
		all, common := rows(), rows()
		for i := range n {
			switch row := func(k int64) []api.Int { v := make([]api.Int, n); v[i] = small(k); return v }; i % 3 {
			case 0:
				a[i] = row(4)
				all = append(all, row(4))
			case 1:
				b[i] = row(6)
				all = append(all, row(6))
			default:
				a[i], b[i] = row(4), row(6)
				all, common = append(all, row(2)), append(common, row(12))
			}
		}
		twist := twisted(r, unit(n), 4*n)
		// A change of columns makes other lattices, of which the same is known.
		over := func(b [][]api.Int) [][]api.Int { return twisted(r, product(b, twist, n), 2*n) }
		x, y := over(a), over(b)
		wantIs(t, "Join", is(t)(herm.Same(sureRows(t)(herm.Join(x, y)), over(all))), true)
		wantIs(t, "Meet", is(t)(herm.Same(sureRows(t)(herm.Meet(x, y)), over(common))), true)
		if got := sureRows(t)(herm.Meet(x, y)); !isForm(got, n) || len(got) != len(common) {
			t.Errorf("Meet: %v", got)
		}
		if got := sureRows(t)(herm.Join(x, y)); !isForm(got, n) || len(got) != n {
			t.Errorf("Join: %v", got)
		}
	}
}
