package lll_test

import (
	"slices"
	"testing"

	"trammel/api"
	"trammel/lll"
)

// The errors of all calls, in their order: those of gso.Valid are ahead of all.

// invalid are rows that are no basis, each with Valid's error.
func invalid() map[api.Errno][][][]api.Int {
	big := []api.Int{power(256, 0)}
	wide := vec(slices.Repeat([]int64{1}, 13)...)
	return map[api.Errno][][][]api.Int{
		api.ErrBig:       {rows(big), rows(big, vec(1, 2)), rows(vec(0), big, nil), rows(wide), rows(vec(1), wide), unit(13), slices.Repeat(rows(nil), 13), slices.Repeat(rows(vec(1)), 13), {12: nil}},
		api.ErrEmpty:     {nil, {}},
		api.ErrShape:     {rows(vec(1, 0), vec(1)), rows(nil, vec(1)), rows(vec(0), vec(0, 0)), rows(vec(0, 0), nil)},
		api.ErrDependent: {rows(nil), rows(nil, nil), rows(vec(0)), rows(vec(1), vec(2)), rows(vec(1, 2), vec(2, 4)), rows(vec(0, 0), vec(0, 1)), rows(vec(4, 0), vec(1, 0), vec(0, 0)), rows([]api.Int{num(true, 0, 0)})},
	}
}

// results are what Check may be handed beside rows that are no basis.
func results(b [][]api.Int) []api.Reduced {
	return []api.Reduced{{}, {B: b, U: unit(len(b)), V: unit(len(b))}, {B: unit(2), U: unit(2), V: unit(2)}, {B: rows(vec(1), nil), U: rows(nil, vec(1)), V: rows(nil), Swaps: -1}}
}

func TestErrorsOfValidComeFirst(t *testing.T) {
	for e, all := range invalid() {
		for _, b := range all {
			r, got := lll.Reduce(b)
			wantErr(t, "Reduce", got, e)
			if len(r.B) != 0 || len(r.U) != 0 || len(r.V) != 0 || r.Swaps != 0 {
				t.Errorf("Reduce: %v beside an error", r)
			}
			is, got := lll.Is(b)
			wantErr(t, "Is", got, e)
			sized, got := lll.Sizes(b)
			wantErr(t, "Sizes", got, e)
			if is || len(sized) != 0 {
				t.Errorf("%v, %v beside an error", is, sized)
			}
			for _, r := range results(b) {
				is, got := lll.Check(b, r)
				wantErr(t, "Check", got, e)
				if is {
					t.Error("Check: true beside an error")
				}
			}
			for _, most := range []int{0, 1, maxTold, -1, maxTold + 1} {
				told, got := lll.Steps(b, most)
				wantErr(t, "Steps", got, e)
				if len(told) != 0 {
					t.Errorf("Steps: %v beside an error", told)
				}
			}
		}
	}
}

// TestAtTheLimits: 12 rows, 12 columns and 256 bits are no error.
func TestAtTheLimits(t *testing.T) {
	for _, b := range great(51) {
		_, e := lll.Reduce(b)
		wantErr(t, "Reduce", e, api.OK)
		_, e = lll.Is(b)
		wantErr(t, "Is", e, api.OK)
		_, e = lll.Sizes(b)
		wantErr(t, "Sizes", e, api.OK)
		_, e = lll.Check(b, api.Reduced{})
		wantErr(t, "Check", e, api.OK)
		_, e = lll.Steps(b, maxTold)
		wantErr(t, "Steps", e, api.OK)
	}
	// Noughts at a number's end count for nothing, of its bits too.
	_, e := lll.Reduce(rows([]api.Int{{Mag: make([]uint32, 20)}, {Mag: append([]uint32{7}, make([]uint32, 20)...)}}))
	wantErr(t, "Reduce", e, api.OK)
}
