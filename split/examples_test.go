package split_test

import (
	"testing"

	"trammel/api"
	"trammel/split"
)

// The examples of the chapter, and some more that are written out.

func TestExampleOfJobs(t *testing.T) {
	wantJobs(t, square(t), 1, nil, rows(nil))
	wantJobs(t, square(t), 2, nil, rows(vec(0), vec(1), vec(-1)))
	wantJobs(t, square(t), 4, rows(vec(0)), rows(vec(1), vec(-1), vec(0, 0), vec(0, 1), vec(0, -1)))
}

func TestExampleOfShare(t *testing.T) {
	wantShare(t, 5, 2, []int{0, 2, 4}, []int{1, 3})
}

func TestTheSquareCutToItsLeaves(t *testing.T) {
	wantJobs(t, square(t), 3, nil, rows(vec(0), vec(1), vec(-1)))
	wantJobs(t, square(t), 5, rows(vec(0)), rows(vec(1), vec(-1), vec(0, 0), vec(0, 1), vec(0, -1)))
	for _, many := range []int{6, 7, 100, api.MaxJobs} {
		wantJobs(t, square(t), many, rows(vec(0), vec(1), vec(-1)), rows(vec(0, 0), vec(0, 1), vec(0, -1), vec(1, 0), vec(-1, 0)))
	}
}

func TestBelowInTheSquare(t *testing.T) {
	for _, c := range []struct {
		root  []api.Int
		nodes [][]api.Int
	}{
		{nil, squareNodes()},
		{vec(0), squareNodes()[:4]},
		{vec(1), squareNodes()[4:6]},
		{vec(-1), squareNodes()[6:]},
		{vec(0, -1), squareNodes()[3:4]},
		{vec(2), nil},
		{vec(1, 1), nil},
		{vec(2, 0), nil},
	} {
		for most := range 11 {
			many := len(c.nodes)
			wantBelow(t, square(t), c.root, most, most >= many, c.nodes[:min(most, many)]...)
		}
	}
}

func TestCoversOfTheSquare(t *testing.T) {
	whole := rows(vec(1), vec(-1), vec(0, 0), vec(0, 1), vec(0, -1))
	for _, c := range []struct {
		name        string
		done, roots [][]api.Int
		first       int // so many nodes are each there just one time
	}{
		{"all below one job", nil, rows(nil), 8},
		{"a cut", rows(vec(0)), whole, 8},
		{"a cut in another order", rows(vec(0)), rows(vec(0, -1), vec(-1), vec(0, 1), vec(1), vec(0, 0)), 8},
		{"all done", squareNodes(), nil, 8},
		{"nothing", nil, nil, 0},
		{"without what is done", nil, whole, 0},
		{"without the last job of all", rows(vec(0)), whole[:4], 3},
		{"without (-1)", rows(vec(0)), rows(vec(1), vec(0, 0), vec(0, 1), vec(0, -1)), 6},
		{"done twice", rows(vec(0), vec(0)), whole, 0},
		{"a job twice", rows(vec(0)), append(whole, vec(0, 1)), 2},
		{"done, and a job", rows(vec(0), vec(0, -1)), whole, 3},
		{"done, and below a job", rows(vec(0), vec(-1, 0)), whole, 7},
		{"a job below another one", rows(vec(0)), append(whole, vec(1, 0)), 5},
		{"all, and a job", nil, rows(nil, vec(-1)), 6},
		{"all twice", nil, rows(nil, nil), 0},
		{"what is no node", rows(vec(0), nil, vec(2), vec(2), vec(1, 1), vec(0, 0, 0), nil), append(whole, vec(2), vec(-1, 1), vec(0, 0, 0), vec(0, 0, 0)), 8},
	} {
		for most := range 11 {
			is, all, e := split.Covers(square(t), c.done, jobsOf(c.roots), most)
			if is != (min(most, 8) <= c.first) || all != (most >= 8) || e != api.OK {
				t.Errorf("%s, %d: %v, %v, error %d", c.name, most, is, all, e)
			}
		}
	}
}

// TestNumbersOfErrors: the numbers by which callers know the errors.
func TestNumbersOfErrors(t *testing.T) {
	_, _, isTree := split.Jobs(api.Tree{}, 1)
	_, _, isArg := split.Jobs(square(t), 0)
	_, _, isLong := split.Jobs(treeOf(t, api.Rat{Num: power(99), Den: small(1)}, nil, vec(1)), 2)
	for i, e := range []api.Errno{isTree, isArg, isLong} {
		if n := []int{110, 1, 2}[i]; int(e) != n {
			t.Errorf("error %d instead of %d", e, n)
		}
	}
}
