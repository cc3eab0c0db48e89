package crew_test

import (
	"math/rand"
	"testing"

	"trammel/api"
	"trammel/crew"
	"trammel/split"
)

// P14.3.

func wantSteps(t *testing.T, tr api.Tree, c api.Crew, want int) {
	t.Helper()
	n, e := crew.Steps(tr, c)
	if n != want || e != api.OK {
		t.Errorf("%v: %d, error %d instead of %d", c, n, e, want)
	}
}

func TestStepsAreTheModels(t *testing.T) {
	r := rand.New(rand.NewSource(31))
	for _, p := range smallTrees(t, 32) {
		for _, c := range crews(r, len(p.nodes)) {
			_, jobs, _ := split.Jobs(p.tr, c.Many)
			want := 2*len(p.nodes) + 2*len(jobs) + c.Workers
			wantSteps(t, p.tr, c, want)
			c.Budget = 1
			wantSteps(t, p.tr, c, want)
		}
	}
}

// TestStepsOfNoNode: one job, the empty suffix, that is cut or not.
func TestStepsOfNoNode(t *testing.T) {
	tr := treeOf(t, q(1, 5), []api.Rat{q(1, 2)}, vec(1))
	wantSteps(t, tr, api.Crew{Many: 1, Workers: 3, Budget: 1}, 5)
	wantSteps(t, tr, api.Crew{Many: 2, Workers: 3, Budget: 1}, 3)
}

func TestStepsAtTheirLimit(t *testing.T) {
	c := api.Crew{Many: 1, Workers: 64, Budget: 1}
	wantSteps(t, full(t), c, 2*api.MaxNodes+2+64)
	refuseSteps(t, fuller(t), c, api.ErrLong)
	c.Many = 2
	wantSteps(t, full(t), c, 4*api.MaxNodes+64)
	refuseSteps(t, fuller(t), c, api.ErrLong)
}

// TestARunMayTakeAllSteps: that of the whole numbers, the farther ones first, each of which is offered.
func TestARunMayTakeAllSteps(t *testing.T) {
	c := api.Crew{Many: 2, Workers: 5, Budget: 5}
	picks := []int{}
	for range 5 {
		picks = append(picks, len(picks))
	}
	for who := 4; who >= 0; who-- {
		picks = append(picks, who, who)
	}
	run, e := crew.Play(line(t), true, c, picks)
	n, _ := crew.Steps(line(t), c)
	if e != api.OK || len(run.Events) != n || run.Spent != 5 {
		t.Errorf("%d instead of %d: %s", len(run.Events), n, inWords(run))
	}
}
