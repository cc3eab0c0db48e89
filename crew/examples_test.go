package crew_test

import (
	"slices"
	"testing"

	"trammel/api"
	"trammel/crew"
)

// The chapter's examples, and some more that are written out.

// wantEvents holds a whole run against what is written out.
func wantEvents(t *testing.T, tr api.Tree, nought bool, c api.Crew, picks []int, want api.CrewRun) {
	t.Helper()
	run, e := crew.Play(tr, nought, c, picks)
	if !alikeRun(run, want) || e != api.OK {
		t.Errorf("%v, %v: %s, error %d instead of %s", c, picks, inWords(run), e, inWords(want))
	}
	n, e := crew.Replay(tr, nought, c, want.Events)
	if n != len(want.Events) || e != api.OK {
		t.Errorf("%v, %v: %d events are replayed, error %d", c, picks, n, e)
	}
}

// alone are the events of the example, one worker's with one job.
func alone() []api.CrewEvent {
	return []api.CrewEvent{
		event(0, api.CrewTake, 0),
		event(0, api.CrewLook, 0, 0),
		event(0, api.CrewLook, 0, 0, 0),
		event(0, api.CrewLook, 0, 0, 1), event(0, api.CrewOffer, 0, 0, 1),
		event(0, api.CrewLook, 0, 0, -1), event(0, api.CrewOffer, 0, 0, -1),
		event(0, api.CrewLook, 0, 1),
		event(0, api.CrewLook, 0, 1, 0), event(0, api.CrewOffer, 0, 1, 0),
		event(0, api.CrewLook, 0, -1),
		event(0, api.CrewLook, 0, -1, 0), event(0, api.CrewOffer, 0, -1, 0),
		event(0, api.CrewDone, 0),
		event(0, api.CrewEnd, 0),
	}
}

// four are the square's shortest vectors, in order.
func four() []api.Found {
	return leaves(q(1, 1), vec(-1, 0), vec(0, -1), vec(0, 1), vec(1, 0))
}

func TestExampleOfPlay(t *testing.T) {
	c := api.Crew{Many: 1, Workers: 1, Budget: 8}
	wantEvents(t, square(t), false, c, nil, api.CrewRun{Spent: 8, Events: alone(), Best: four()})
	c.Budget = 3
	events := append(alone()[:5], event(0, api.CrewOut, 0, 0, -1))
	wantEvents(t, square(t), false, c, nil, api.CrewRun{Out: true, Spent: 3, Events: events, Best: leaves(q(1, 1), vec(1, 0))})
}

func TestEachBudgetInTheSquare(t *testing.T) {
	spent := 0
	for at, e := range alone() {
		if e.What != api.CrewLook {
			continue
		}
		if spent > 0 {
			// The node that would be looked at now is the one at which the machine is out.
			events := append(alone()[:at], event(0, api.CrewOut, 0))
			events[at].Node = e.Node
			run, _ := crew.Play(square(t), false, api.Crew{Many: 1, Workers: 1, Budget: spent}, nil)
			if !run.Out || run.Spent != spent || !slices.EqualFunc(run.Events, events, alikeEvent) {
				t.Errorf("budget %d: %s", spent, inWords(run))
			}
		}
		spent++
	}
}

func TestNoughtsShrinkTheBoundToNought(t *testing.T) {
	events := []api.CrewEvent{
		event(0, api.CrewTake, 0), event(0, api.CrewLook, 0, 0), event(0, api.CrewLook, 0, 0, 0), event(0, api.CrewOffer, 0, 0, 0),
		event(0, api.CrewDone, 0), event(0, api.CrewEnd, 0),
	}
	// Nothing that is left may be expanded, so a budget of two is not used up.
	for _, budget := range []int{2, 3, 8, api.MaxCrew} {
		wantEvents(t, square(t), true, api.Crew{Many: 1, Workers: 1, Budget: budget}, nil, api.CrewRun{Spent: 2, Events: events, Best: leaves(q(0, 1), vec(0, 0))})
	}
	wantEvents(t, square(t), true, api.Crew{Many: 1, Workers: 1, Budget: 1}, nil, api.CrewRun{
		Out: true, Spent: 1, Events: append(events[:2:2], event(0, api.CrewOut, 0, 0, 0)),
	})
}

func TestCutNodesAreExpandedFirst(t *testing.T) {
	cut := []api.CrewEvent{event(-1, api.CrewLook, 0, 0), event(-1, api.CrewLook, 0, 1), event(-1, api.CrewLook, 0, -1)}
	c := api.Crew{Many: 6, Workers: 2, Budget: 1}
	wantEvents(t, square(t), false, c, []int{1, 1}, api.CrewRun{Out: true, Spent: 1, Events: cut[:1]})
	c.Budget = 2
	wantEvents(t, square(t), false, c, []int{1, 1}, api.CrewRun{Out: true, Spent: 2, Events: cut[:2]})
	c.Budget = 3
	wantEvents(t, square(t), false, c, []int{1, 1}, api.CrewRun{
		Out: true, Spent: 3, Events: append(cut, event(1, api.CrewTake, 0), event(1, api.CrewOut, 0, 0, 0)),
	})
	c.Budget = 5
	wantEvents(t, square(t), false, c, []int{1, 1, 1, 0, 0, 0, 1, 1}, api.CrewRun{
		Out: true, Spent: 5, Best: leaves(q(1, 1), vec(1, 0)),
		Events: append(cut,
			event(1, api.CrewTake, 0), event(1, api.CrewLook, 0, 0, 0), event(1, api.CrewDone, 0),
			event(0, api.CrewTake, 1), event(0, api.CrewLook, 1, 0, 1), event(0, api.CrewOffer, 1, 0, 1),
			event(1, api.CrewTake, 2), event(1, api.CrewOut, 2, 0, -1)),
	})
}

// TestTwoByPicks: jobs (0), (1), (-1); picks count by what is left of them, also below 0; behind the last one the first worker goes on.
func TestTwoByPicks(t *testing.T) {
	events := []api.CrewEvent{
		event(1, api.CrewTake, 0),
		event(0, api.CrewTake, 1),
		event(1, api.CrewLook, 0, 0),
		event(1, api.CrewLook, 0, 0, 0),
		event(0, api.CrewLook, 1, 1),
		event(1, api.CrewLook, 0, 0, 1),
		event(0, api.CrewLook, 1, 1, 0),
		event(1, api.CrewOffer, 0, 0, 1),
		event(0, api.CrewOffer, 1, 1, 0),
		event(0, api.CrewDone, 1),
		event(0, api.CrewTake, 2),
		event(0, api.CrewLook, 2, -1),
		event(0, api.CrewLook, 2, -1, 0),
		event(0, api.CrewOffer, 2, -1, 0),
		event(0, api.CrewDone, 2),
		event(0, api.CrewEnd, 0),
		event(1, api.CrewLook, 0, 0, -1),
		event(1, api.CrewOffer, 0, 0, -1),
		event(1, api.CrewDone, 0),
		event(1, api.CrewEnd, 0),
	}
	wantEvents(t, square(t), false, api.Crew{Many: 2, Workers: 2, Budget: 8}, []int{1, 0, 3, -1, -2, 5, 0, 7, 100}, api.CrewRun{Spent: 8, Events: events, Best: four()})
}

// line is the tree of the whole numbers up to 2: (0), (1), (-1), (2), (-2), which are its jobs, if more than one is asked for.
func line(t *testing.T) api.Tree {
	t.Helper()
	return treeOf(t, q(4, 1), nil, vec(1))
}

// TestALeafIsDropped that somebody has looked at ahead of a shorter one that is offered ahead of it.
func TestALeafIsDropped(t *testing.T) {
	takes := []api.CrewEvent{event(0, api.CrewTake, 0), event(1, api.CrewTake, 1), event(2, api.CrewTake, 2), event(3, api.CrewTake, 3)}
	ends := []api.CrewEvent{
		event(0, api.CrewDone, 0), event(0, api.CrewTake, 4), event(0, api.CrewDone, 4), event(0, api.CrewEnd, 0),
		event(1, api.CrewDone, 1), event(1, api.CrewEnd, 0), event(2, api.CrewDone, 2), event(2, api.CrewEnd, 0), event(3, api.CrewDone, 3), event(3, api.CrewEnd, 0),
	}
	c := api.Crew{Many: 2, Workers: 4, Budget: 4}
	one := leaves(q(1, 1), vec(-1), vec(1))
	wantEvents(t, line(t), false, c, []int{0, 1, 2, 3, 3, 2, 2, 3, 1, 1, 0}, api.CrewRun{Spent: 4, Best: one, Events: slices.Concat(takes, []api.CrewEvent{
		event(3, api.CrewLook, 3, 2), event(2, api.CrewLook, 2, -1), event(2, api.CrewOffer, 2, -1), event(3, api.CrewOffer, 3, 2),
		event(1, api.CrewLook, 1, 1), event(1, api.CrewOffer, 1, 1), event(0, api.CrewLook, 0, 0),
	}, ends)})
	wantEvents(t, line(t), false, c, []int{0, 1, 2, 3, 3, 3, 2, 2, 1, 1, 0}, api.CrewRun{Spent: 4, Best: one, Events: slices.Concat(takes, []api.CrewEvent{
		event(3, api.CrewLook, 3, 2), event(3, api.CrewOffer, 3, 2), event(2, api.CrewLook, 2, -1), event(2, api.CrewOffer, 2, -1),
		event(1, api.CrewLook, 1, 1), event(1, api.CrewOffer, 1, 1), event(0, api.CrewLook, 0, 0),
	}, ends)})
	// What was found till the machine is out: what was offered first, though it is not the shortest.
	c.Budget = 1
	wantEvents(t, line(t), false, c, []int{0, 1, 2, 3, 3, 3, 2}, api.CrewRun{Out: true, Spent: 1, Best: leaves(q(4, 1), vec(2)), Events: slices.Concat(takes, []api.CrewEvent{
		event(3, api.CrewLook, 3, 2), event(3, api.CrewOffer, 3, 2), event(2, api.CrewOut, 2, -1),
	})})
}

func TestFoundInTheSquare(t *testing.T) {
	wantFound(t, square(t), false, four())
	wantFound(t, square(t), true, leaves(q(0, 1), vec(0, 0)))
	half := []api.Rat{q(1, 2), q(1, 3)}
	wantFound(t, treeOf(t, q(1, 1), half, vec(1, 0), vec(0, 1)), true, leaves(q(13, 36), vec(0, 0), vec(1, 0)))
	wantFound(t, treeOf(t, q(1, 1), half, vec(1, 0), vec(0, 1)), false, leaves(q(13, 36), vec(1, 0)))
	wantFound(t, treeOf(t, q(1, 3), half, vec(1, 0), vec(0, 1)), true, nil)
	wantFound(t, treeOf(t, q(1, 2), nil, vec(1, 0), vec(0, 1)), false, nil)
}

func TestStepsInTheSquare(t *testing.T) {
	for _, c := range []struct{ many, workers, steps int }{{1, 1, 19}, {1, 3, 21}, {2, 1, 23}, {4, 2, 28}, {6, 1, 27}, {api.MaxJobs, api.MaxWorkers, 90}} {
		n, e := crew.Steps(square(t), api.Crew{Many: c.many, Workers: c.workers, Budget: 1})
		if n != c.steps || e != api.OK {
			t.Errorf("%v: %d, error %d", c, n, e)
		}
	}
}

// TestNumbersOfErrors: the numbers by which callers know the errors.
func TestNumbersOfErrors(t *testing.T) {
	c := api.Crew{Many: 2, Workers: 1, Budget: 1}
	_, isTree := crew.Play(api.Tree{}, true, c, nil)
	_, isArg := crew.Play(square(t), true, api.Crew{}, nil)
	_, isLong := crew.Play(treeOf(t, api.Rat{Num: power(99), Den: small(1)}, nil, vec(1)), true, c, nil)
	for i, e := range []api.Errno{isTree, isArg, isLong} {
		if n := []int{110, 1, 2}[i]; int(e) != n {
			t.Errorf("error %d instead of %d", e, n)
		}
	}
}
