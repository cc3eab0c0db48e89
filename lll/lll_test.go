package lll_test

import (
	"math/rand"
	"slices"
	"testing"

	"trammel/api"
	"trammel/lll"
)

// LL1, and LL3 where the exchanges are many or none.

// checkReduce holds what comes of a basis against what the words make of it. There is but one U and one V, as the rows of a basis are independent: so it is enough to multiply.
func checkReduce(t *testing.T, b [][]api.Int) {
	t.Helper()
	sure, swaps := reducedByWords(b)
	r, e := lll.Reduce(b)
	wantErr(t, "Reduce", e, api.OK)
	wantRows(t, "B", r.B, sure)
	checkTransforms(t, b, r)
	if r.Swaps != len(swaps) {
		t.Errorf("Reduce(%v): %d exchanges instead of %d", wholes(b), r.Swaps, len(swaps))
	}
	told, e := lll.Steps(b, 1<<16)
	wantErr(t, "Steps", e, api.OK)
	if !slices.Equal(told, swaps) {
		t.Errorf("Steps(%v): %v instead of %v", wholes(b), told, swaps)
	}
}

// checkTransforms: B is U times b, b is V times B, and U and V are each other's inverses.
func checkTransforms(t *testing.T, b [][]api.Int, r api.Reduced) {
	t.Helper()
	for _, m := range [][][]api.Int{r.U, r.V} {
		if len(m) != len(b) || slices.ContainsFunc(m, func(row []api.Int) bool { return len(row) != len(b) }) {
			t.Fatalf("a transform of %d rows: %v", len(b), m)
		}
		wantRows(t, "one form", m, forms(wholes(m)))
	}
	wantRows(t, "U times b", times(r.U, b), r.B)
	wantRows(t, "V times B", times(r.V, r.B), forms(wholes(b)))
	wantRows(t, "U times V", times(r.U, r.V), unit(len(b)))
	wantRows(t, "V times U", times(r.V, r.U), unit(len(b)))
}

// checkSizes holds the sizes, and whether a basis is reduced, against the words.
func checkSizes(t *testing.T, b [][]api.Int) {
	t.Helper()
	got, e := lll.Sizes(b)
	wantErr(t, "Sizes", e, api.OK)
	wantRows(t, "Sizes", got, sizedByWords(b))
	is, e := lll.Is(b)
	wantErr(t, "Is", e, api.OK)
	if is != isReduced(wholes(b)) {
		t.Errorf("Is(%v): %v", wholes(b), is)
	}
}

func TestReduceIsWhatTheWordsMake(t *testing.T) {
	for _, b := range slices.Concat(bases(11), bases(12)) {
		checkReduce(t, b)
	}
	r := rand.New(rand.NewSource(15))
	checkReduce(t, twisted(r, unit(8), 24))
	checkReduce(t, weighted(r, 7, 60))
}

func TestSizesAndIs(t *testing.T) {
	reduced := 0
	for _, b := range slices.Concat(bases(13), bases(14)) {
		checkSizes(t, b)
		r, _ := lll.Reduce(b)
		checkSizes(t, r.B)
		if is, e := lll.Is(r.B); !is || e != api.OK {
			t.Errorf("Is of what was reduced: %v %d", is, e)
		}
		if is, _ := lll.Is(b); is {
			reduced++
		}
	}
	if reduced == 0 {
		t.Error("no basis was reduced at first")
	}
}

// everyBasis calls f with all bases of numbers from -most to most.
func everyBasis(height, width int, most int64, f func(b [][]api.Int)) {
	cells := slices.Repeat([]int64{-most}, height*width)
	for {
		b := [][]api.Int{}
		for row := range slices.Chunk(cells, width) {
			b = append(b, vec(row...))
		}
		if _, free := schmidt(wholes(b)); free {
			f(b)
		}
		at := slices.IndexFunc(cells, func(n int64) bool { return n < most })
		if at < 0 {
			return
		}
		cells[at]++
		for i := range at {
			cells[i] = -most
		}
	}
}

func TestAllSmallBases(t *testing.T) {
	for _, c := range []struct {
		height, width int
		most          int64
	}{{1, 1, 3}, {1, 2, 2}, {2, 2, 3}, {2, 3, 1}, {3, 3, 1}} {
		everyBasis(c.height, c.width, c.most, func(b [][]api.Int) {
			checkReduce(t, b)
			checkSizes(t, b)
		})
	}
}

// TestHalves: of two whole numbers as near the greater one is taken, so a size of 1/2 goes, and one of -1/2 stays.
func TestHalves(t *testing.T) {
	for _, c := range []struct {
		from, to []api.Int
		is       bool
	}{
		{vec(1, 2), vec(-1, 2), false},
		{vec(-1, 2), vec(-1, 2), true},
		{vec(3, 2), vec(-1, 2), false},
		{vec(-3, 2), vec(-1, 2), false},
		{vec(0, 2), vec(0, 2), true},
	} {
		b := rows(vec(2, 0), c.from)
		got, e := lll.Sizes(b)
		wantErr(t, "Sizes", e, api.OK)
		wantRows(t, "Sizes", got, rows(vec(2, 0), c.to))
		if is, e := lll.Is(b); is != c.is || e != api.OK {
			t.Errorf("Is(%v): %v %d", wholes(b), is, e)
		}
		checkReduce(t, b)
	}
}

// TestSizesGoDownward: losing the row 1 changes how often the row 0 is in what is left, so the row 0 comes behind it.
func TestSizesGoDownward(t *testing.T) {
	b := rows(vec(2, 0, 0), vec(-1, 2, 0), vec(0, 2, 5))
	got, e := lll.Sizes(b)
	wantErr(t, "Sizes", e, api.OK)
	wantRows(t, "Sizes", got, rows(vec(2, 0, 0), vec(-1, 2, 0), vec(-1, 0, 5)))
	checkReduce(t, b)
}

// TestStepsThatJustHold: three quarters are enough, and one less is not.
func TestStepsThatJustHold(t *testing.T) {
	for _, c := range []struct {
		b     [][]api.Int
		holds bool
	}{
		{rows(vec(2, 0, 0, 0), vec(0, 1, 1, 1)), true},
		{rows(vec(2, 0, 0), vec(0, 1, 1)), false},
		{rows(vec(2, 0, 0), vec(-1, 1, 1)), true},
		{rows(vec(2, 0), vec(-1, 1)), false},
		{rows(vec(4, 0, 0, 0), vec(-1, 3, 1, 1)), true},
		{rows(vec(4, 0, 0, 0), vec(0, 3, 1, 1)), false},
		{rows(vec(9, 0, 0, 0), vec(0, 2, 0, 0), vec(0, 0, 1, 1)), false},
		{rows(vec(1, 0, 0, 0, 0), vec(0, 2, 0, 0, 0), vec(0, 0, 1, 1, 1)), true},
		{rows(vec(1, 0, 0, 0, 0), vec(0, 2, 0, 0, 0), vec(0, 0, 0, 1, 1)), false},
	} {
		if is, e := lll.Is(c.b); is != c.holds || e != api.OK {
			t.Errorf("Is(%v): %v %d", wholes(c.b), is, e)
		}
		if r, _ := lll.Reduce(c.b); (r.Swaps == 0) != c.holds {
			t.Errorf("Reduce(%v): %d exchanges", wholes(c.b), r.Swaps)
		}
		checkReduce(t, c.b)
	}
}

// TestBeyondTheBitsOfABasis: what comes may have numbers of more bits than may be handed in.
func TestBeyondTheBitsOfABasis(t *testing.T) {
	b := wide()
	twice := make([]api.Int, 12)
	twice[0] = power(257, -2)
	r, e := lll.Reduce(b)
	wantErr(t, "Reduce", e, api.OK)
	wantRows(t, "B", r.B, rows(twice, b[0]))
	checkReduce(t, b)
	sized, e := lll.Sizes(b)
	wantErr(t, "Sizes", e, api.OK)
	wantRows(t, "Sizes", sized, rows(b[0], twice))
	_, e = lll.Is(r.B)
	wantErr(t, "Is", e, api.ErrBig)
}
