package crew_test

import (
	"math"
	"math/rand"
	"slices"
	"testing"

	"trammel/api"
	"trammel/crew"
)

// P14.1.

func TestPlayIsTheShadows(t *testing.T) {
	outs, shrunk := 0, 0
	for seed := range int64(10) {
		searches(t, 110+seed, func(p plan, nought bool, c api.Crew, picks []int) {
			run := wantRun(t, p, nought, c, picks)
			if run.Out {
				outs++
			} else if run.Spent < len(p.nodes) {
				shrunk++
			}
		})
	}
	if outs < 300 || shrunk < 300 {
		t.Errorf("%d that are out, %d whose bound shrank are few", outs, shrunk)
	}
}

// TestEachBudgetIsKept to the node.
func TestEachBudgetIsKept(t *testing.T) {
	r := rand.New(rand.NewSource(12))
	for _, p := range smallTrees(t, 13)[:20] {
		nodes := len(p.nodes)
		many, workers, nought := 1+r.Intn(12), 1+r.Intn(4), r.Intn(2) == 0
		for budget := 1; budget < nodes+2; budget += 1 + nodes/15 {
			run := wantRun(t, p, nought, api.Crew{Many: many, Workers: workers, Budget: budget}, pickings(r)[3])
			if run.Spent > budget || run.Out && run.Spent != budget {
				t.Errorf("budget %d: %d nodes", budget, run.Spent)
			}
		}
	}
}

// TestPicksCountByTheirRest when they are divided by how many have not ended.
func TestPicksCountByTheirRest(t *testing.T) {
	for _, workers := range []int{1, 2, 3, 7, api.MaxWorkers} {
		c := api.Crew{Many: 3, Workers: workers, Budget: 50}
		for _, pick := range []int{0, 1, -1, 5, -5, 63, 64, -64, 1 << 40, -1 << 40, math.MaxInt, math.MinInt, math.MinInt + 1} {
			picks := slices.Repeat([]int{pick, -pick}, 200)
			run := wantRun(t, squarePlan(t), false, c, picks)
			if first := run.Events[0].Who; first != rest(pick, workers) {
				t.Errorf("%d workers, %d: %d", workers, pick, first)
			}
		}
	}
}

// TestPicksBehindTheEnd count for nothing, and behind the last one comes 0.
func TestPicksBehindTheEnd(t *testing.T) {
	r := rand.New(rand.NewSource(14))
	for _, p := range smallTrees(t, 15)[:20] {
		c := api.Crew{Many: 4, Workers: 3, Budget: 40}
		picks := pickings(r)[2+r.Intn(2)]
		run := wantRun(t, p, false, c, picks)
		for _, more := range [][]int{{0}, make([]int, 300)} {
			other, _ := crew.Play(p.tr, false, c, slices.Concat(picks, more))
			if !alikeRun(run, other) {
				t.Errorf("%v and noughts: %s instead of %s", picks, inWords(other), inWords(run))
			}
		}
		whole, _ := crew.Play(p.tr, false, c, slices.Concat(picks, make([]int, len(run.Events)), []int{1, 2, 5, 9}))
		if !alikeRun(run, whole) {
			t.Errorf("%v and more: %s instead of %s", picks, inWords(whole), inWords(run))
		}
	}
}

// TestPlayOfBigNumbers: nodes and parts may be of many limbs, and the machine is out soon where the tree has too many nodes to be gone through.
func TestPlayOfBigNumbers(t *testing.T) {
	r := rand.New(rand.NewSource(16))
	some := 0
	for _, tr := range trees(17) {
		c := api.Crew{Many: 1, Workers: 1 + r.Intn(3), Budget: 1 + r.Intn(8)}
		m := modelOf(tr)
		want := m.nodes(nil, c.Budget+1)
		run, e := crew.Play(tr, true, c, []int{1, 1, 1})
		seen := [][]api.Int{}
		for _, e := range run.Events {
			if e.What == api.CrewLook || e.What == api.CrewOut {
				seen = append(seen, e.Node)
			}
		}
		if e != api.OK || run.Out && len(want) <= c.Budget || len(seen) > len(want) {
			t.Errorf("%v: %s, error %d", c, inWords(run), e)
			continue
		}
		// A node that was left out is farther off than what was found.
		for _, node := range want {
			isSeen := len(seen) > 0 && alikeRow(seen[0], node)
			switch {
			case isSeen:
				seen = seen[1:]
			case len(run.Best) == 0 || m.part(node).Cmp(value(run.Best[0].N)) <= 0:
				t.Errorf("%v: %v is left out: %s", c, told(node), inWords(run))
			}
			some++
		}
	}
	if some < 300 {
		t.Errorf("%d nodes are few", some)
	}
}

// TestTheLimitsOfACrew: at each all is as below it.
func TestTheLimitsOfACrew(t *testing.T) {
	// The whole numbers up to 2300: 4601 nodes, all of them jobs; none is shorter than the one that comes ahead of it.
	tr := treeOf(t, q(2300*2300, 1), nil, vec(1))
	for _, c := range []api.Crew{{Many: api.MaxJobs, Workers: api.MaxWorkers, Budget: api.MaxCrew}, {Many: 1, Workers: 1, Budget: api.MaxCrew}} {
		run, e := crew.Play(tr, false, c, nil)
		if e != api.OK || run.Out || run.Spent != 3 || !slices.EqualFunc(run.Best, leaves(q(1, 1), vec(-1), vec(1)), alikeFound) {
			t.Errorf("%v: error %d, out %v, spent %d", c, e, run.Out, run.Spent)
		}
	}
	// Some forty of this tree's nodes are cut.
	tr = treeOf(t, q(50*50, 1), nil, vec(1, 0), vec(0, 1))
	run, e := crew.Play(tr, true, api.Crew{Many: api.MaxJobs, Workers: 1, Budget: 30}, nil)
	if e != api.OK || !run.Out || run.Spent != 30 || len(run.Events) != 30 || len(run.Best) != 0 {
		t.Errorf("cut nodes beyond the budget: error %d, out %v, spent %d, %d events, %d found", e, run.Out, run.Spent, len(run.Events), len(run.Best))
	}
}

// TestTheGreatestBudget is enough for just as many nodes: those of the last row alone, as the first row's nearest numbers are too far off.
func TestTheGreatestBudget(t *testing.T) {
	b := rows(vec(1000000, 0), vec(0, 1))
	for _, tr := range []api.Tree{
		treeOf(t, q(4095*4095, 4), []api.Rat{q(1, 2), q(1, 2)}, b...),
		treeOf(t, q(2048*2048, 1), []api.Rat{q(1, 2), q(0, 1)}, b...),
	} {
		isMore := tr.T[1].Num.Mag == nil
		for _, many := range []int{1, api.MaxJobs} {
			run, e := crew.Play(tr, true, api.Crew{Many: many, Workers: 1, Budget: api.MaxCrew}, nil)
			if e != api.OK || run.Out != isMore || run.Spent != api.MaxCrew || len(run.Best) != 0 {
				t.Errorf("%d jobs: error %d, out %v, spent %d, %d found", many, e, run.Out, run.Spent, len(run.Best))
			}
		}
	}
}
