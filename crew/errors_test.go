package crew_test

import (
	"math"
	"reflect"
	"testing"

	"trammel/api"
	"trammel/crew"
)

// The errors, in their order; beside one all else is zero.

func refusePlay(t *testing.T, tr api.Tree, c api.Crew, want api.Errno) {
	t.Helper()
	for _, picks := range [][]int{nil, {3, -1}} {
		run, e := crew.Play(tr, true, c, picks)
		if !reflect.DeepEqual(run, api.CrewRun{}) || e != want {
			t.Errorf("Play by %v: %s, error %d instead of %d", c, inWords(run), e, want)
		}
	}
}

func refuseSteps(t *testing.T, tr api.Tree, c api.Crew, want api.Errno) {
	t.Helper()
	n, e := crew.Steps(tr, c)
	if n != 0 || e != want {
		t.Errorf("Steps of %v: %d, error %d instead of %d", c, n, e, want)
	}
}

func refuseReplay(t *testing.T, tr api.Tree, c api.Crew, want api.Errno) {
	t.Helper()
	for _, l := range [][]api.CrewEvent{nil, {event(0, api.CrewTake, 0)}, {event(0, api.CrewTake, 0), event(-7, 9, 2, 1)}} {
		n, e := crew.Replay(tr, false, c, l)
		if n != 0 || e != want {
			t.Errorf("Replay by %v: %d, error %d instead of %d", c, n, e, want)
		}
	}
}

func refuseFound(t *testing.T, tr api.Tree, nought bool, want api.Errno) {
	t.Helper()
	l, e := crew.Found(tr, nought)
	if len(l) != 0 || e != want {
		t.Errorf("Found: %d, error %d instead of %d", len(l), e, want)
	}
}

// refuse holds all calls that are given a crew.
func refuse(t *testing.T, tr api.Tree, c api.Crew, want api.Errno) {
	t.Helper()
	refusePlay(t, tr, c, want)
	refuseSteps(t, tr, c, want)
	refuseReplay(t, tr, c, want)
}

// wrongCrews are some that can't be, each for one reason but the last.
func wrongCrews() []api.Crew {
	out := []api.Crew{}
	for _, n := range []int{0, -1, math.MinInt, math.MaxInt, 1 << 32, 1<<32 + 1, -1 << 32} {
		out = append(out, api.Crew{Many: n, Workers: 1, Budget: 1}, api.Crew{Many: 2, Workers: n, Budget: 1}, api.Crew{Many: 1, Workers: 2, Budget: n})
	}
	return append(out,
		api.Crew{Many: api.MaxJobs + 1, Workers: api.MaxWorkers, Budget: api.MaxCrew},
		api.Crew{Many: api.MaxJobs, Workers: api.MaxWorkers + 1, Budget: api.MaxCrew},
		api.Crew{Many: api.MaxJobs, Workers: api.MaxWorkers, Budget: api.MaxCrew + 1},
		api.Crew{})
}

// wide is a tree whose root has more children than can be cut.
func wide(t *testing.T) api.Tree {
	t.Helper()
	return treeOf(t, api.Rat{Num: power(99), Den: small(1)}, nil, vec(1, 0), vec(0, 1))
}

func TestErrTreeIsTheFirst(t *testing.T) {
	for _, tr := range unfitTrees() {
		for _, c := range append(wrongCrews(), api.Crew{Many: 1, Workers: 1, Budget: 1}, api.Crew{Many: 2, Workers: 3, Budget: 100}) {
			refuse(t, tr, c, api.ErrTree)
		}
		refuseFound(t, tr, true, api.ErrTree)
		refuseFound(t, tr, false, api.ErrTree)
	}
}

func TestErrArgIsAheadOfErrLong(t *testing.T) {
	for _, tr := range []api.Tree{square(t), line(t), wide(t), fuller(t)} {
		for _, c := range wrongCrews() {
			refuse(t, tr, c, api.ErrArg)
		}
	}
}

func TestErrLongIsTheCuts(t *testing.T) {
	for _, tr := range []api.Tree{wide(t), fuller(t)} {
		for _, many := range []int{2, 3, api.MaxJobs} {
			refuse(t, tr, api.Crew{Many: many, Workers: 1, Budget: 1}, api.ErrLong)
			refuse(t, tr, api.Crew{Many: many, Workers: api.MaxWorkers, Budget: api.MaxCrew}, api.ErrLong)
		}
	}
	// Below the root: of this tree's first row each number is let, of its last one three.
	tr := treeOf(t, api.Rat{Num: power(60), Den: small(1)}, nil, []api.Int{small(1), small(0)}, []api.Int{small(0), power(30)})
	refuse(t, tr, api.Crew{Many: 4, Workers: 1, Budget: 1}, api.ErrLong)
	_, e := crew.Play(tr, true, api.Crew{Many: 3, Workers: 1, Budget: 1}, nil)
	wantErr(t, "Play of three jobs", e, api.OK)
}

// TestAWideTreeThatIsNotCut can be searched, but not counted.
func TestAWideTreeThatIsNotCut(t *testing.T) {
	c := api.Crew{Many: 1, Workers: 2, Budget: 5}
	for _, tr := range []api.Tree{wide(t), fuller(t)} {
		run := api.CrewRun{}
		var e api.Errno
		if run, e = crew.Play(tr, true, c, nil); e != api.OK || run.Out || len(run.Best) != 1 {
			t.Errorf("error %d: %s", e, inWords(run))
		}
		wantReplay(t, tr, true, c, run.Events, len(run.Events))
		refuseSteps(t, tr, c, api.ErrLong)
		refuseFound(t, tr, true, api.ErrLong)
	}
}
