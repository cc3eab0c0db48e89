package herm_test

import (
	"testing"

	"trammel/api"
	"trammel/herm"
)

// The errors of all calls, in their order.

// everyError: of the calls that f takes, all answer it.
func everyError(t *testing.T, g given, e api.Errno, f func(name string) bool) {
	t.Helper()
	for name, call := range calls() {
		if f(name) {
			wantErr(t, name, call(g).e, e)
		}
	}
}

func all(string) bool { return true }

// ofTwo are the calls that are handed two matrices.
func ofTwo(name string) bool {
	return name == "Same" || name == "Within" || name == "Index" || name == "Join" || name == "Meet"
}

// ofVector are those that are handed a vector.
func ofVector(name string) bool { return name == "Member" || name == "Rest" }

func ofOne(name string) bool { return !ofTwo(name) && !ofVector(name) }

// aside are vectors of all lengths.
func aside() [][]api.Int {
	return rows(nil, vec(0), vec(1, 1), make([]api.Int, 64), make([]api.Int, 65), make([]api.Int, 2000))
}

// others are matrices of all kinds, those that can't be too.
func others() [][][]api.Int {
	out := [][][]api.Int{nil, rows(nil), rows(vec(1)), unit(2), blank(64, 64)}
	return append(out, great()...)
}

func TestNoShapeComesFirst(t *testing.T) {
	for _, b := range shapeless() {
		for _, v := range aside() {
			everyError(t, given{b: b, v: v}, api.ErrShape, all)
		}
		for _, a := range append(others(), shapeless()...) {
			everyError(t, given{a: a, b: b}, api.ErrShape, ofTwo)
			everyError(t, given{a: b, b: a}, api.ErrShape, ofTwo)
		}
	}
}

func TestTooManyComesNext(t *testing.T) {
	for _, b := range great() {
		for _, v := range append(aside(), make([]api.Int, len(b[0]))) {
			everyError(t, given{b: b, v: v}, api.ErrSide, all)
		}
		for _, a := range others() {
			everyError(t, given{a: a, b: b}, api.ErrSide, ofTwo)
			everyError(t, given{a: b, b: a}, api.ErrSide, ofTwo)
		}
	}
}

// TestTwoThatDoNotGo: of rows of unlike lengths, rows without an entry too; ahead of ErrNone, which Index would have of them.
func TestTwoThatDoNotGo(t *testing.T) {
	wide := [][][]api.Int{rows(nil), blank(64, 0), rows(vec(1)), blank(3, 1), unit(2), rows(vec(1, 2), vec(2, 4)), rows(vec(0, 0, 0)), blank(1, 64), blank(64, 63)}
	for _, a := range wide {
		for _, b := range wide {
			e := api.ErrShape
			if len(a[0]) == len(b[0]) {
				e = api.OK
			}
			everyError(t, given{a: a, b: b}, e, func(name string) bool { return ofTwo(name) && (e != api.OK || name != "Index") })
		}
		// No rows go with all.
		everyError(t, given{a: a}, api.OK, func(name string) bool { return ofTwo(name) && name != "Index" })
		everyError(t, given{b: a}, api.OK, func(name string) bool { return ofTwo(name) && name != "Index" })
		everyError(t, given{b: a}, api.OK, ofOne)
	}
}

func TestVectorsThatDoNotGo(t *testing.T) {
	for _, b := range [][][]api.Int{rows(nil), blank(64, 0), rows(vec(1)), unit(2), rows(vec(1, 2), vec(2, 4)), rows(vec(0, 0, 0)), blank(64, 64), blank(1, 64)} {
		for _, v := range append(aside(), vec(1, 2, 3)) {
			e := api.ErrShape
			if len(v) == len(b[0]) {
				e = api.OK
			}
			everyError(t, given{b: b, v: v}, e, ofVector)
		}
	}
	for _, v := range aside() {
		everyError(t, given{v: v}, api.OK, ofVector)
		everyError(t, given{b: rows(), v: v}, api.OK, ofVector)
	}
}

// TestNumbersOfErrors: as the document numbers them.
func TestNumbersOfErrors(t *testing.T) {
	_, shape := herm.Basis(rows(nil, vec(1)))
	_, side := herm.Basis(blank(65, 0))
	_, none := herm.Index(unit(1), diag(2))
	for i, e := range []api.Errno{shape, side, none} {
		if n := []int{8, 60, 6}[i]; int(e) != n {
			t.Errorf("error %d instead of %d", e, n)
		}
	}
}
