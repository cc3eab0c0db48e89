package lll_test

import (
	"math"
	"slices"
	"testing"

	"trammel/api"
	"trammel/lll"
)

// LL3.

const maxTold = 1 << 16

func TestStepsTellsTheFirstOnes(t *testing.T) {
	many := 0
	for _, b := range bases(31) {
		_, swaps := reducedByWords(b)
		many = max(many, len(swaps))
		for _, most := range []int{0, 1, 2, len(swaps) - 1, len(swaps), len(swaps) + 1, maxTold - 1, maxTold} {
			if most < 0 {
				continue
			}
			got, e := lll.Steps(b, most)
			wantErr(t, "Steps", e, api.OK)
			if !slices.Equal(got, swaps[:min(most, len(swaps))]) {
				t.Errorf("Steps(%v, %d): %v instead of the first of %v", wholes(b), most, got, swaps)
			}
		}
	}
	if many < 20 {
		t.Errorf("%d exchanges at most", many)
	}
}

func TestStepsOfManyExchanges(t *testing.T) {
	for _, b := range great(32) {
		r, _ := lll.Reduce(b)
		all, e := lll.Steps(b, maxTold)
		wantErr(t, "Steps", e, api.OK)
		if len(all) != r.Swaps {
			t.Errorf("Steps: %d exchanges, %d told", r.Swaps, len(all))
		}
		some, e := lll.Steps(b, len(all)/2)
		wantErr(t, "Steps", e, api.OK)
		if !slices.Equal(some, all[:len(all)/2]) {
			t.Errorf("Steps: %v instead of the first half of %v", some, all)
		}
		// Between two exchanges k falls by 1 once, and then only grows.
		for i, k := range all {
			if k < 1 || k >= len(b) || i > 0 && k < all[i-1]-1 {
				t.Errorf("Steps: %d at %d", k, i)
			}
		}
	}
}

func TestStepsRefuses(t *testing.T) {
	for _, b := range bases(33)[:8] {
		for _, most := range []int{math.MinInt, -maxTold, -2, -1, maxTold + 1, 1 << 17, math.MaxInt} {
			got, e := lll.Steps(b, most)
			wantErr(t, "Steps", e, api.ErrArg)
			if len(got) != 0 {
				t.Errorf("Steps: %v beside an error", got)
			}
		}
	}
}
