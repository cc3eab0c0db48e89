package herm_test

import (
	"math/big"
	"math/rand"
	"slices"
	"testing"

	"trammel/api"
	"trammel/herm"
)

// P8.2 and P8.3.

// checkRest holds Rest and Member of one vector against the words.
func checkRest(t *testing.T, b [][]api.Int, v []api.Int) {
	t.Helper()
	h := basis(b, len(v))
	got := sure(t)(herm.Rest(b, v))
	wantVector(t, "Rest", got, rest(h, v))
	for _, row := range h {
		at := lead(row)
		if n := whole(got[at]); n.Sign() < 0 || n.Cmp(whole(row[at])) >= 0 {
			t.Errorf("Rest(%v, %v): %v", b, v, got)
		}
	}
	less := []bigInt{}
	for i, a := range v {
		less = append(less, new(big.Int).Sub(whole(a), whole(got[i])))
	}
	wantIs(t, "Member of what Rest took away", is(t)(herm.Member(b, forms(less))), true)
	wantIs(t, "Member", is(t)(herm.Member(b, v)), member(b, v))
	wantIs(t, "Member of a rest", is(t)(herm.Member(b, got)), lead(got) == len(got))
}

func TestRests(t *testing.T) {
	r := rand.New(rand.NewSource(11))
	for _, s := range samples(12) {
		checkRest(t, s.b, drawVector(r, s.width, even))
		checkRest(t, s.b, drawVector(r, s.width, long(3)))
		checkRest(t, s.b, make([]api.Int, s.width))
		checkRest(t, s.b, combined(drawVector(r, len(s.b), long(2)), s.b, s.width))
	}
}

// TestMembersByAllSums: in a lattice of few rows of small numbers, a vector is a member if it is one of the sums of rows, each not too often.
func TestMembersByAllSums(t *testing.T) {
	for _, b := range [][][]api.Int{rows(vec(2, 0), vec(1, 1)), rows(vec(2, 4)), rows(vec(3, 1), vec(1, -2)), rows(vec(2, 2), vec(-2, 2)), rows(vec(1, 2), vec(2, 4)), rows(vec(0, 3))} {
		sums := [][]api.Int{}
		boxes(1, len(b), 12, func(x [][]api.Int) { sums = append(sums, combined(x[0], b, 2)) })
		boxes(1, 2, 4, func(v [][]api.Int) {
			in := slices.ContainsFunc(sums, func(sum []api.Int) bool { return alikeLists(sum, v[0]) })
			wantIs(t, "Member", is(t)(herm.Member(b, v[0])), in)
		})
	}
}

// TestMembersOfNothing: no rows go with all vectors, however long.
func TestMembersOfNothing(t *testing.T) {
	for _, n := range []int{0, 1, 2, 64, 65, 2000} {
		v := make([]api.Int, n)
		wantIs(t, "Member", is(t)(herm.Member(nil, v)), true)
		wantVector(t, "Rest", sure(t)(herm.Rest(nil, v)), v)
		if n > 0 {
			v[n-1] = small(-3)
			wantIs(t, "Member", is(t)(herm.Member(nil, v)), false)
			wantVector(t, "Rest", sure(t)(herm.Rest(rows(), v)), v)
		}
	}
	for _, b := range [][][]api.Int{rows(nil), blank(64, 0)} {
		wantIs(t, "Member", is(t)(herm.Member(b, nil)), true)
		wantVector(t, "Rest", sure(t)(herm.Rest(b, nil)), nil)
	}
	wantVector(t, "Rest by noughts", sure(t)(herm.Rest(blank(2, 3), vec(-1, 5, 0))), vec(-1, 5, 0))
}

func TestWithin(t *testing.T) {
	for _, c := range couples(13) {
		in := true
		for _, row := range c.a {
			in = in && member(c.b, row)
		}
		wantIs(t, "Within", is(t)(herm.Within(c.a, c.b)), in)
	}
	for _, c := range []struct {
		a, b [][]api.Int
		is   bool
	}{
		{nil, nil, true}, {nil, unit(3), true}, {blank(2, 3), nil, true}, {unit(1), nil, false}, {rows(nil), rows(nil), true}, {rows(vec(0), vec(0), vec(1)), nil, false},
		{diag(4, 6), diag(2, 3), true}, {diag(2, 3), diag(4, 6), false}, {rows(vec(4, 0), vec(0, 6), vec(2, 1)), diag(2, 3), false}, {rows(vec(2, 0)), unit(2), true},
	} {
		wantIs(t, "Within", is(t)(herm.Within(c.a, c.b)), c.is)
	}
}

// index is how many rests b's lattice has by a's: each is a sum of b's rows, and one behind the other all are found; 0, if they are more than many.
func index(a, b [][]api.Int, width, many int) int {
	h := basis(a, width)
	found := rows(make([]api.Int, width))
	for i := 0; i < len(found) && i < many; i++ {
		for _, row := range b {
			next := []bigInt{}
			for j, n := range row {
				next = append(next, new(big.Int).Add(whole(n), whole(found[i][j])))
			}
			left := rest(h, forms(next))
			if !slices.ContainsFunc(found, func(v []api.Int) bool { return alikeLists(v, left) }) {
				found = append(found, left)
			}
		}
	}
	if len(found) > many {
		return 0
	}
	return len(found)
}

func TestIndexByClasses(t *testing.T) {
	counted, refused := 0, 0
	for _, c := range couples(14) {
		n, e := herm.Index(c.a, c.b)
		in := len(basis(c.a, c.width)) == len(basis(c.b, c.width))
		for _, row := range c.a {
			in = in && member(c.b, row)
		}
		if !in {
			wantErr(t, "Index", e, api.ErrNone)
			want(t, "Index", n, new(big.Int))
			refused++
			continue
		}
		wantErr(t, "Index", e, api.OK)
		if many := index(c.a, c.b, c.width, 100); many > 0 {
			want(t, "Index", n, big.NewInt(int64(many)))
			counted++
		}
	}
	if counted < 100 || refused < 100 {
		t.Errorf("%d counted, %d refused", counted, refused)
	}
}

func TestIndexAtTheEdges(t *testing.T) {
	for _, c := range []struct {
		a, b [][]api.Int
		n    int64
		e    api.Errno
	}{
		{nil, nil, 1, api.OK}, {nil, blank(3, 2), 1, api.OK}, {rows(nil), nil, 1, api.OK}, {rows(nil, nil), rows(nil), 1, api.OK}, {blank(1, 1), blank(2, 1), 1, api.OK},
		{nil, unit(1), 0, api.ErrNone}, {unit(1), nil, 0, api.ErrNone}, {blank(1, 1), unit(1), 0, api.ErrNone}, {unit(2), diag(2, 1), 0, api.ErrNone},
		{rows(vec(1, 0)), unit(2), 0, api.ErrNone}, {rows(vec(2, 0)), rows(vec(1, 0)), 2, api.OK}, {rows(vec(2, 0)), rows(vec(0, 1)), 0, api.ErrNone},
		{rows(vec(-6, 12)), rows(vec(1, -2), vec(2, -4)), 6, api.OK}, {rows(vec(0, 4, 2)), rows(vec(0, 2, 1)), 2, api.OK}, {unit(64), unit(64), 1, api.OK},
		{rows(vec(3)), rows(vec(2)), 0, api.ErrNone}, {rows(vec(1, 1), vec(1, -1)), unit(2), 2, api.OK},
	} {
		n, e := herm.Index(c.a, c.b)
		wantErr(t, "Index", e, c.e)
		want(t, "Index", n, big.NewInt(c.n))
	}
	two := diag(slices.Repeat([]int64{2}, 64)...)
	n, e := herm.Index(two, unit(64))
	wantErr(t, "Index", e, api.OK)
	want(t, "Index", n, new(big.Int).Lsh(big.NewInt(1), 64))
}
