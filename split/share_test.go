package split_test

import (
	"math"
	"slices"
	"testing"

	"trammel/api"
	"trammel/split"
)

// SP4.

func wantShare(t *testing.T, jobs, workers int, l ...[]int) {
	t.Helper()
	got, e := split.Share(jobs, workers)
	if !slices.EqualFunc(got, l, slices.Equal) || e != api.OK {
		t.Errorf("Share(%d, %d): %v, error %d, instead of %v", jobs, workers, got, e, l)
	}
}

// sharedOut is each worker's places by the chapter's words.
func sharedOut(jobs, workers int) [][]int {
	out := [][]int{}
	for w := range workers {
		own := []int{}
		for place := range jobs {
			if place%workers == w {
				own = append(own, place)
			}
		}
		out = append(out, own)
	}
	return out
}

func TestShare(t *testing.T) {
	for workers := 1; workers <= api.MaxWorkers; workers++ {
		for jobs := range 140 {
			wantShare(t, jobs, workers, sharedOut(jobs, workers)...)
		}
		for _, jobs := range []int{api.MaxJobs, api.MaxNodes - 1, api.MaxNodes} {
			wantShare(t, jobs, workers, sharedOut(jobs, workers)...)
		}
	}
	wantShare(t, 0, 3, nil, nil, nil)
	wantShare(t, 2, 4, []int{0}, []int{1}, nil, nil)
}

func TestShareRefuses(t *testing.T) {
	refuse := func(jobs, workers int) {
		if l, e := split.Share(jobs, workers); len(l) != 0 || e != api.ErrArg {
			t.Errorf("Share(%d, %d): %v, error %d", jobs, workers, l, e)
		}
	}
	fit := []int{1, 2, api.MaxWorkers}
	unfit := []int{-1, -2, math.MinInt, math.MaxInt, 1 << 32, -1 << 32, 1<<32 + 1}
	for _, other := range fit {
		for _, jobs := range append(unfit, api.MaxNodes+1) {
			refuse(jobs, other)
		}
		for _, workers := range append(unfit, 0, api.MaxWorkers+1) {
			refuse(other, workers)
			refuse(0, workers)
			refuse(-1, workers)
		}
	}
}

// TestSharesAreApart: whoever makes one longer, or writes into it, changes no other.
func TestSharesAreApart(t *testing.T) {
	got, _ := split.Share(7, 3)
	for i := range got {
		got[i] = append(got[i], -1, -2, -3)
		got[i][0] -= 100
	}
	want := [][]int{{-100, 3, 6, -1, -2, -3}, {-99, 4, -1, -2, -3}, {-98, 5, -1, -2, -3}}
	if !slices.EqualFunc(got, want, slices.Equal) {
		t.Errorf("%v instead of %v", got, want)
	}
	wantShare(t, 7, 3, sharedOut(7, 3)...)
}
