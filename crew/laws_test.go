package crew_test

import (
	"math/rand"
	"slices"
	"testing"

	"trammel/api"
	"trammel/crew"
	"trammel/tree"
)

// P14.5, and G1 to G4 as far as this layer reaches, by the program's own calls.

// looked are the nodes that a run has expanded.
func looked(run api.CrewRun) [][]api.Int {
	out := [][]api.Int{}
	for _, e := range run.Events {
		if e.What == api.CrewLook {
			out = append(out, e.Node)
		}
	}
	return out
}

func compare(a, b []api.Int) int {
	return slices.CompareFunc(a, b, func(x, y api.Int) int { return whole(x).Cmp(whole(y)) })
}

func TestWhateverThePicks(t *testing.T) {
	searches(t, 51, func(p plan, nought bool, c api.Crew, picks []int) {
		tr := p.tr
		run, e := crew.Play(tr, nought, c, picks)
		wantErr(t, "Play", e, api.OK)
		nodes, _, _ := tree.Nodes(tr, api.MaxNodes)
		found, _ := crew.Found(tr, nought)
		steps, _ := crew.Steps(tr, c)
		if !run.Out && (!slices.EqualFunc(run.Best, found, alikeFound) || len(run.Events) > steps) {
			t.Errorf("%v, %v: %s instead of %s in at most %d", c, picks, inWords(run), inWords(api.CrewRun{Best: found}), steps)
		}
		if run.Out && (run.Spent != c.Budget || len(nodes) <= c.Budget) || run.Spent > c.Budget {
			t.Errorf("%v, %v: %s of %d nodes", c, picks, inWords(run), len(nodes))
		}
		seen := looked(run)
		slices.SortFunc(seen, compare)
		if len(seen) != run.Spent || len(slices.CompactFunc(seen, alikeRow)) != run.Spent {
			t.Errorf("%v, %v: a node is expanded twice: %s", c, picks, inWords(run))
		}
		for _, node := range seen {
			if is, _ := tree.In(tr, node); !is || len(node) == 0 {
				t.Errorf("%v, %v: %v is no node: %s", c, picks, told(node), inWords(run))
			}
		}
	})
}

// TestAsMuchAsTheTreeIsEnough: with a budget of all nodes the machine is never out, and with one less only if all were expanded.
func TestAsMuchAsTheTreeIsEnough(t *testing.T) {
	r := rand.New(rand.NewSource(52))
	for _, p := range smallTrees(t, 53) {
		nodes, _, _ := tree.Nodes(p.tr, api.MaxNodes)
		for range 5 {
			c := api.Crew{Many: 1 + r.Intn(20), Workers: 1 + r.Intn(6), Budget: max(1, len(nodes))}
			for _, picks := range pickings(r) {
				for _, nought := range []bool{false, true} {
					if run, _ := crew.Play(p.tr, nought, c, picks); run.Out {
						t.Errorf("%v, %v: %s of %d nodes", c, picks, inWords(run), len(nodes))
					}
				}
			}
		}
	}
}

// TestNothingIsShorter than what was found, and all that is as short was found.
func TestNothingIsShorter(t *testing.T) {
	r := rand.New(rand.NewSource(54))
	for _, p := range smallTrees(t, 55) {
		for _, nought := range []bool{false, true} {
			want := least(p, nought)
			for range 4 {
				c := api.Crew{Many: 1 + r.Intn(30), Workers: 1 + r.Intn(9), Budget: api.MaxCrew}
				run, _ := crew.Play(p.tr, nought, c, pickings(r)[4])
				if !slices.EqualFunc(run.Best, want, alikeFound) {
					t.Errorf("%v: %s instead of %s", c, inWords(run), inWords(api.CrewRun{Best: want}))
				}
			}
		}
	}
}

// TestNobodyWaits: behind any events each worker that has not ended takes a step when it is picked.
func TestNobodyWaits(t *testing.T) {
	r := rand.New(rand.NewSource(56))
	for _, p := range smallTrees(t, 57)[:20] {
		c := api.Crew{Many: 1 + r.Intn(8), Workers: 2 + r.Intn(4), Budget: 1 + r.Intn(60)}
		s := shadowOf(t, p, false, c)
		events, picks := s.cut(), []int{}
		for !s.ends() {
			awake := s.awake()
			for place, who := range awake {
				run, _ := crew.Play(p.tr, false, c, append(slices.Clone(picks), place))
				if len(run.Events) <= len(events) || run.Events[len(events)].Who != who {
					t.Errorf("%v, %v: %d can't: %s", c, picks, who, inWords(run))
				}
			}
			place := r.Intn(len(awake))
			events, picks = append(events, s.step(awake[place])), append(picks, place)
		}
	}
}

// TestAllEndBesideOneAnother: a run that is not out takes each job once, and each worker ends once.
func TestAllEndBesideOneAnother(t *testing.T) {
	searches(t, 58, func(p plan, nought bool, c api.Crew, picks []int) {
		run, _ := crew.Play(p.tr, nought, c, picks)
		if run.Out {
			return
		}
		takes, dones, ends := 0, map[int]int{}, map[int]int{}
		for _, e := range run.Events {
			switch e.What {
			case api.CrewTake:
				if e.Job != takes {
					t.Errorf("%v, %v: the job %d is taken behind %d others", c, picks, e.Job, takes)
				}
				takes++
			case api.CrewDone:
				dones[e.Job]++
			case api.CrewEnd:
				ends[e.Who]++
			}
		}
		if len(dones) != takes || len(ends) != c.Workers {
			t.Errorf("%v, %v: %d taken, %v done, %v ended", c, picks, takes, dones, ends)
		}
		for _, times := range []map[int]int{dones, ends} {
			for key, n := range times {
				if n != 1 {
					t.Errorf("%v, %v: %d comes %d times", c, picks, key, n)
				}
			}
		}
	})
}
