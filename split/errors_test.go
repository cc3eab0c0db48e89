package split_test

import (
	"math"
	"math/rand"
	"testing"

	"trammel/api"
)

// The errors, in their order; beside one all else is zero.

// wrongNumbers are how many nobody may ask for.
func wrongNumbers() []int {
	return []int{-1, -api.MaxNodes, math.MinInt, math.MaxInt, 1 << 32, -1 << 32, 1<<32 + 1, api.MaxNodes + 1}
}

func TestErrTreeIsTheFirst(t *testing.T) {
	for _, tr := range unfitTrees() {
		for _, n := range append(wrongNumbers(), 0, 1, 2, 5, api.MaxJobs, api.MaxJobs+1, api.MaxNodes) {
			refuseJobs(t, tr, n, api.ErrTree)
			for _, s := range [][]api.Int{nil, vec(1), vec(1, 2, 3), make([]api.Int, 30)} {
				refuseBelow(t, tr, s, n, api.ErrTree)
				refuseCovers(t, tr, rows(s), rows(s, nil), n, api.ErrTree)
			}
		}
	}
}

func TestErrArg(t *testing.T) {
	r := rand.New(rand.NewSource(30))
	for _, tr := range trees(31) {
		n := len(tr.G.L)
		for _, many := range append(wrongNumbers(), 0, api.MaxJobs+1, api.MaxNodes) {
			// Some of these trees are so wide that they can't be cut: that is not the first thing that is said.
			refuseJobs(t, tr, many, api.ErrArg)
		}
		for _, m := range []int{n + 1, n + 2, 300} {
			for _, most := range []int{0, 5, -1} {
				refuseBelow(t, tr, drawVector(r, m, digit), most, api.ErrArg)
			}
		}
		for _, most := range wrongNumbers() {
			for m := range n + 1 {
				refuseBelow(t, tr, make([]api.Int, m), most, api.ErrArg)
			}
			refuseCovers(t, tr, nil, rows(nil), most, api.ErrArg)
			refuseCovers(t, tr, rows(vec(0)), nil, most, api.ErrArg)
		}
	}
}
