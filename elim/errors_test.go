package elim_test

import (
	"slices"
	"testing"

	"trammel/api"
	"trammel/elim"
)

// The errors of all calls, in their order.

// refusals is the error of each call.
func refusals(b [][]api.Int, v []api.Int) map[string]api.Errno {
	out := map[string]api.Errno{}
	for name, call := range calls() {
		out[name] = call(given{b: b, v: v}).e
	}
	return out
}

// everyError: all calls answer it.
func everyError(t *testing.T, b [][]api.Int, v []api.Int, e api.Errno) {
	t.Helper()
	for name, got := range refusals(b, v) {
		wantErr(t, name, got, e)
	}
}

// aside are vectors of all lengths.
func aside() [][]api.Int {
	return rows(nil, vec(0), vec(1, 1), make([]api.Int, 64), make([]api.Int, 65), make([]api.Int, 2000))
}

func TestNoShapeComesFirst(t *testing.T) {
	for _, b := range shapeless() {
		for _, v := range aside() {
			everyError(t, b, v, api.ErrShape)
		}
	}
}

func TestTooManyComesNext(t *testing.T) {
	for _, b := range great() {
		for _, v := range append(aside(), make([]api.Int, len(b[0]))) {
			everyError(t, b, v, api.ErrSide)
		}
	}
}

func TestNotSquare(t *testing.T) {
	for _, b := range oblong() {
		for _, v := range append(aside(), make([]api.Int, len(b[0]))) {
			got := refusals(b, v)
			for _, name := range []string{"Det", "Unimodular", "Inverse", "Minors", "Cramer"} {
				wantErr(t, name, got[name], api.ErrShape)
			}
			for _, name := range []string{"Rank", "Steps", "Null"} {
				wantErr(t, name, got[name], api.OK)
			}
		}
	}
}

// TestVectorsThatDoNotGo: a v of another length is refused ahead of all that rows can be.
func TestVectorsThatDoNotGo(t *testing.T) {
	for _, b := range [][][]api.Int{rows(vec(1, 0), vec(0, 1)), rows(vec(1, 2), vec(2, 4)), blank(2, 2), blank(64, 64), rows(vec(1))} {
		for _, v := range slices.DeleteFunc(append(aside(), vec(1, 2, 3)), func(v []api.Int) bool { return len(v) == len(b) }) {
			_, _, e := elim.Solve(b, v)
			wantErr(t, "Solve", e, api.ErrShape)
			_, _, e = elim.Cramer(b, v)
			wantErr(t, "Cramer", e, api.ErrShape)
		}
	}
	for _, b := range [][][]api.Int{rows(vec(1, 2, 3)), rows(nil), rows(nil, nil), blank(3, 63)} {
		_, _, e := elim.Solve(b, vec(1))
		wantErr(t, "Solve", e, api.ErrShape)
	}
	// Of no rows each v goes with Solve, but Cramer's is square.
	_, _, e := elim.Cramer(nil, vec(0))
	wantErr(t, "Cramer", e, api.ErrShape)
	_, _, e = elim.Solve(nil, vec(0))
	wantErr(t, "Solve", e, api.OK)
}

// TestDependentComesAheadOfNone: rows that are dependent are refused, whether there is an x or not.
func TestDependentComesAheadOfNone(t *testing.T) {
	for _, b := range [][][]api.Int{rows(vec(1, 2), vec(2, 4)), rows(vec(1, 2), vec(0, 0)), rows(vec(0, 0)), rows(vec(1, 0), vec(0, 1), vec(1, 1))} {
		for _, v := range rows(vec(0, 0), vec(1, 2), vec(1, 3)) {
			_, _, e := elim.Solve(b, v)
			wantErr(t, "Solve", e, api.ErrDependent)
		}
	}
	for _, b := range [][][]api.Int{rows(nil), rows(nil, nil), blank(64, 0)} {
		_, _, e := elim.Solve(b, nil)
		wantErr(t, "Solve", e, api.ErrDependent)
	}
	_, _, e := elim.Inverse(rows(vec(1, 2), vec(2, 4)))
	wantErr(t, "Inverse", e, api.ErrDependent)
	_, _, e = elim.Inverse(rows(vec(0)))
	wantErr(t, "Inverse", e, api.ErrDependent)
}
