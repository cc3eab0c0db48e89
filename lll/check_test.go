package lll_test

import (
	"math"
	"math/big"
	"math/rand"
	"slices"
	"testing"

	"trammel/api"
	"trammel/lll"
)

// LL2.

// taken and refused: what Check says of a basis that is one.
func taken(t *testing.T, b [][]api.Int, r api.Reduced) {
	t.Helper()
	if is, e := lll.Check(b, r); !is || e != api.OK {
		t.Errorf("Check(%v, %v): %v %d", wholes(b), r, is, e)
	}
}

func refused(t *testing.T, b [][]api.Int, r api.Reduced) {
	t.Helper()
	if is, e := lll.Check(b, r); is || e != api.OK {
		t.Errorf("Check(%v, %v): %v %d", wholes(b), r, is, e)
	}
}

// edited is r with other rows in one of its three places.
func edited(r api.Reduced, place int, m [][]api.Int) api.Reduced {
	switch place {
	case 0:
		r.B = m
	case 1:
		r.U = m
	case 2:
		r.V = m
	}
	return r
}

func placesOf(r api.Reduced) [][][]api.Int { return [][][]api.Int{r.B, r.U, r.V} }

func TestCheckTakesWhatReduceMakes(t *testing.T) {
	for _, b := range slices.Concat(bases(21), great(22)) {
		r, _ := lll.Reduce(b)
		taken(t, b, r)
		for _, swaps := range []int{math.MinInt, -1, 0, 1, math.MaxInt} {
			r.Swaps = swaps
			taken(t, b, r)
		}
	}
}

// TestCheckOfOtherReducedBases: a lattice has many, and with its own transforms each is taken.
func TestCheckOfOtherReducedBases(t *testing.T) {
	plain := rows(vec(1, 0), vec(0, 1))
	turned := rows(vec(0, 1), vec(-1, 0))
	taken(t, plain, api.Reduced{B: plain, U: plain, V: plain})
	taken(t, plain, api.Reduced{B: turned, U: turned, V: rows(vec(0, -1), vec(1, 0))})
	refused(t, plain, api.Reduced{B: turned, U: turned, V: turned})
	refused(t, plain, api.Reduced{B: turned, U: plain, V: plain})
	loose := rows([]api.Int{num(false, 1, 0), num(true)}, []api.Int{num(true, 0, 0), num(false, 1, 0, 0)})
	taken(t, loose, api.Reduced{B: plain, U: loose, V: loose})
	taken(t, plain, api.Reduced{B: loose, U: loose, V: plain})
}

// TestCheckOfWhatIsNotReduced: transforms that are right are not enough, at sizes and at steps.
func TestCheckOfWhatIsNotReduced(t *testing.T) {
	one := unit(2)
	for _, c := range []struct {
		b  [][]api.Int
		is bool
	}{
		{rows(vec(2, 0), vec(-1, 2)), true},
		{rows(vec(2, 0), vec(1, 2)), false},
		{rows(vec(2, 0), vec(0, 2)), true},
		{rows(vec(2, 0), vec(0, 1)), false},
		{rows(vec(2, 0, 0, 0), vec(0, 1, 1, 1)), true},
		{rows(vec(1, 1), vec(0, 2)), false},
	} {
		r := api.Reduced{B: c.b, U: one, V: one}
		if c.is {
			taken(t, c.b, r)
		} else {
			refused(t, c.b, r)
		}
	}
	for _, b := range bases(23) {
		r := api.Reduced{B: b, U: unit(len(b)), V: unit(len(b))}
		if isReduced(wholes(b)) {
			taken(t, b, r)
		} else {
			refused(t, b, r)
		}
	}
}

// bumped is rows with one number more by some.
func bumped(b [][]api.Int, i, j int, by int64) [][]api.Int {
	out := slices.Clone(b)
	out[i] = slices.Clone(b[i])
	n := whole(b[i][j])
	out[i][j] = form(n.Add(n, big.NewInt(by)))
	return out
}

// TestCheckFindsEachWrongNumber: there is but one U and one V to a B, and but one B to a U.
func TestCheckFindsEachWrongNumber(t *testing.T) {
	for _, b := range bases(24) {
		r, _ := lll.Reduce(b)
		for place, m := range placesOf(r) {
			for i, row := range m {
				for j := range row {
					refused(t, b, edited(r, place, bumped(m, i, j, 1)))
					refused(t, b, edited(r, place, bumped(m, i, j, -1)))
				}
			}
		}
	}
}

// misshapen are rows of other shapes than those of m.
func misshapen(m [][]api.Int) [][][]api.Int {
	longer, shorter, last := [][]api.Int{}, [][]api.Int{}, slices.Clone(m)
	for _, row := range m {
		longer = append(longer, append(slices.Clone(row), api.Int{}))
		shorter = append(shorter, row[:len(row)-1])
	}
	last[len(m)-1] = longer[len(m)-1]
	out := [][][]api.Int{nil, {}, rows(nil), m[:len(m)-1], append(slices.Clone(m), m[0]), append(slices.Clone(m), nil), append(slices.Clone(m), make([]api.Int, len(m[0]))), longer, shorter, last}
	if len(m) > 1 {
		out = append(out, append(longer[:1:1], m[1:]...))
	}
	return out
}

func TestCheckOfOtherShapes(t *testing.T) {
	for _, b := range bases(25) {
		r, _ := lll.Reduce(b)
		for place, m := range placesOf(r) {
			for _, other := range misshapen(m) {
				refused(t, b, edited(r, place, other))
			}
		}
		refused(t, b, api.Reduced{})
		refused(t, b, api.Reduced{B: r.B})
	}
	// Two rows more, that go with each other and with b, but are no transform of its rows.
	b, r := rows(vec(1, 0, 0)), api.Reduced{B: rows(vec(1, 0, 0), vec(0, 1, 0)), U: rows(vec(1), vec(0)), V: rows(vec(1, 0))}
	refused(t, b, r)
	// Columns more that count for nothing are too many too: on U's right stand none of b's rows.
	refused(t, rows(vec(1)), api.Reduced{B: rows(vec(1)), U: rows(vec(1, 0)), V: rows(vec(1))})
	// More rows and columns than a basis may have.
	refused(t, rows(vec(1)), api.Reduced{B: unit(65), U: unit(65), V: unit(65)})
	refused(t, rows(vec(1)), api.Reduced{B: rows(make([]api.Int, 100)), U: unit(1), V: unit(1)})
}

// TestCheckOfDependentRows: rows that are no basis are not taken, whatever U and V say.
func TestCheckOfDependentRows(t *testing.T) {
	b := rows(vec(1, 0), vec(0, 1))
	for _, c := range [][][]api.Int{rows(vec(0, 0), vec(0, 0)), rows(vec(1, 0), vec(0, 0)), rows(vec(1, 0), vec(1, 0)), rows(nil, nil)} {
		refused(t, b, api.Reduced{B: c, U: c, V: b})
		refused(t, b, api.Reduced{B: c, U: c, V: c})
	}
}

// TestCheckOfAPart: a lattice within that of b has whole numbers to it, but none back; and the other way round.
func TestCheckOfAPart(t *testing.T) {
	one, two := unit(2), rows(vec(2, 0), vec(0, 2))
	for _, m := range [][][]api.Int{one, two, rows(vec(0, 0), vec(0, 0))} {
		refused(t, one, api.Reduced{B: two, U: two, V: m})
		refused(t, two, api.Reduced{B: one, U: m, V: two})
	}
}

// TestCheckOfLongNumbers: r's numbers may have any number of bits.
func TestCheckOfLongNumbers(t *testing.T) {
	b := wide()
	r, _ := lll.Reduce(b)
	taken(t, b, r)
	// The same lattice, far from reduced, with transforms that are right.
	far := power(40000, 1)
	minus := form(new(big.Int).Neg(whole(far)))
	refused(t, unit(2), api.Reduced{
		B: rows(vec(1, 0), []api.Int{far, small(1)}),
		U: rows(vec(1, 0), []api.Int{far, small(1)}),
		V: rows(vec(1, 0), []api.Int{minus, small(1)}),
	})
	refused(t, unit(1), api.Reduced{B: rows([]api.Int{far}), U: rows([]api.Int{far}), V: unit(1)})
}

// TestCheckOfDrawnTransforms: U and V that are right, and a B that is the words' or not.
func TestCheckOfDrawnTransforms(t *testing.T) {
	r := rand.New(rand.NewSource(26))
	yes, no := 0, 0
	for range 300 {
		n := 1 + r.Intn(3)
		red, _ := lll.Reduce(drawBasis(r, n, n+r.Intn(2), digit))
		c := red.B
		// U takes a row from one behind it, or turns one's sign.
		u, v := unit(n), unit(n)
		i, j := r.Intn(n), r.Intn(n)
		if i == j {
			u[i][i], v[i][i] = small(-1), small(-1)
		} else {
			u[i][j], v[i][j] = small(-1), small(1)
		}
		made := api.Reduced{B: times(u, c), U: u, V: v}
		if isReduced(wholes(made.B)) {
			yes++
			taken(t, c, made)
		} else {
			no++
			refused(t, c, made)
		}
	}
	if yes == 0 || no == 0 {
		t.Errorf("%d taken, %d refused", yes, no)
	}
}
