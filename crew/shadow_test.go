package crew_test

import (
	"math/rand"
	"slices"
	"testing"

	"trammel/api"
	"trammel/crew"
	"trammel/split"
)

// What a worker of the shadow does next.
const (
	isFree = iota
	isWalking
	isOffering
	hasEnded
)

// shadow is the machine as the chapter's words have it, over a model of the tree: a walker is the list of the nodes that are ahead of it.
type shadow struct {
	p       plan
	nought  bool
	budget  int
	done    [][]api.Int
	jobs    []api.Job
	taken   int
	workers []shadowWorker
	bound   bigRat
	spent   int
	out     bool
	found   []leaf
}

type shadowWorker struct {
	state int
	job   int
	ahead []node
	node  node
}

// leaf is a leaf's coefficients by rows, and its part.
type leaf struct {
	x []api.Int
	n bigRat
}

func leafOf(n node) leaf {
	x := slices.Clone(n.s)
	slices.Reverse(x)
	return leaf{x, n.part}
}

func shadowOf(t *testing.T, p plan, nought bool, c api.Crew) *shadow {
	t.Helper()
	done, jobs, e := split.Jobs(p.tr, c.Many)
	wantErr(t, "Jobs", e, api.OK)
	return &shadow{p: p, nought: nought, budget: c.Budget, done: done, jobs: jobs, workers: make([]shadowWorker, c.Workers), bound: p.r}
}

// cut gives the events of the done nodes.
func (s *shadow) cut() []api.CrewEvent {
	out := []api.CrewEvent{}
	for _, done := range s.done {
		if s.spent == s.budget {
			s.out = true
			break
		}
		s.spent++
		out = append(out, api.CrewEvent{Who: -1, What: api.CrewLook, Node: done})
	}
	return out
}

// awake are the workers that have not ended.
func (s *shadow) awake() []int {
	out := []int{}
	for who, w := range s.workers {
		if w.state != hasEnded {
			out = append(out, who)
		}
	}
	return out
}

// ends tells if nobody takes a step any more.
func (s *shadow) ends() bool { return s.out || len(s.awake()) == 0 }

// counts tells if a node is a leaf that counts for the search.
func (p plan) counts(s []api.Int, nought bool) bool {
	return p.isLeaf(s) && (nought || !isNought(s))
}

func isNought(s []api.Int) bool {
	for _, a := range s {
		if whole(a).Sign() != 0 {
			return false
		}
	}
	return true
}

// step is that of a worker that has not ended.
func (s *shadow) step(who int) api.CrewEvent {
	w := &s.workers[who]
	switch {
	case w.state == isFree && s.taken == len(s.jobs):
		w.state = hasEnded
		return api.CrewEvent{Who: who, What: api.CrewEnd}
	case w.state == isFree:
		w.state, w.job, w.ahead = isWalking, s.taken, s.p.below(s.jobs[s.taken].Root)
		s.taken++
		return api.CrewEvent{Who: who, What: api.CrewTake, Job: w.job}
	case w.state == isOffering:
		w.state = isWalking
		s.offer(w.node)
		return api.CrewEvent{Who: who, What: api.CrewOffer, Job: w.job, Node: w.node.s}
	}
	at := slices.IndexFunc(w.ahead, func(n node) bool { return n.part.Cmp(s.bound) <= 0 })
	if at < 0 {
		w.state = isFree
		return api.CrewEvent{Who: who, What: api.CrewDone, Job: w.job}
	}
	w.node, w.ahead = w.ahead[at], w.ahead[at+1:]
	if s.spent == s.budget {
		s.out = true
		return api.CrewEvent{Who: who, What: api.CrewOut, Job: w.job, Node: w.node.s}
	}
	s.spent++
	if s.p.counts(w.node.s, s.nought) {
		w.state = isOffering
	}
	return api.CrewEvent{Who: who, What: api.CrewLook, Job: w.job, Node: w.node.s}
}

func (s *shadow) offer(n node) {
	one := leafOf(n)
	if order := one.n.Cmp(s.bound); order < 0 || len(s.found) == 0 {
		s.found, s.bound = []leaf{one}, one.n
	} else if order == 0 {
		s.found = append(s.found, one)
	}
}

// rest is what is rest when a pick is divided, from 0 on.
func rest(pick, by int) int {
	for pick %= by; pick < 0; {
		pick += by
	}
	return pick
}

// play goes on by picks up to the end.
func (s *shadow) play(picks []int) []api.CrewEvent {
	out := s.cut()
	for ; !s.ends(); picks = picks[min(1, len(picks)):] {
		awake, pick := s.awake(), 0
		if len(picks) > 0 {
			pick = picks[0]
		}
		out = append(out, s.step(awake[rest(pick, len(awake))]))
	}
	return out
}

// inOrder sorts leaves, number by number.
func inOrder(l []leaf) []leaf {
	out := slices.Clone(l)
	slices.SortFunc(out, func(a, b leaf) int {
		return slices.CompareFunc(a.x, b.x, func(x, y api.Int) int { return whole(x).Cmp(whole(y)) })
	})
	return out
}

func alikeEvent(a, b api.CrewEvent) bool {
	return a.Who == b.Who && a.What == b.What && a.Job == b.Job && alikeRow(a.Node, b.Node)
}

func alikeFound(a, b api.Found) bool {
	return alikeRow(a.X, b.X) && alike(a.N.Num, b.N.Num) && alike(a.N.Den, b.N.Den)
}

// best is leaves as the program tells them.
func best(l []leaf) []api.Found {
	out := []api.Found{}
	for _, one := range inOrder(l) {
		out = append(out, api.Found{X: one.x, N: terms(one.n)})
	}
	return out
}

func alikeRun(a, b api.CrewRun) bool {
	return a.Out == b.Out && a.Spent == b.Spent && slices.EqualFunc(a.Events, b.Events, alikeEvent) && slices.EqualFunc(a.Best, b.Best, alikeFound)
}

// wantRun holds Play against a shadow.
func wantRun(t *testing.T, p plan, nought bool, c api.Crew, picks []int) api.CrewRun {
	t.Helper()
	s := shadowOf(t, p, nought, c)
	events := s.play(picks)
	want := api.CrewRun{Out: s.out, Spent: s.spent, Events: events, Best: best(s.found)}
	run, e := crew.Play(p.tr, nought, c, picks)
	if !alikeRun(run, want) || e != api.OK {
		t.Errorf("%v, %v: %s, error %d instead of %s", c, picks, inWords(run), e, inWords(want))
	}
	return run
}

// crews are some for a tree of so many nodes.
func crews(r *rand.Rand, nodes int) []api.Crew {
	out := []api.Crew{{Many: 1, Workers: 1, Budget: max(1, nodes)}, {Many: api.MaxJobs, Workers: api.MaxWorkers, Budget: api.MaxCrew}}
	for range 4 {
		c := api.Crew{Many: 1 + r.Intn(nodes+4), Workers: 1 + r.Intn(5), Budget: api.MaxCrew}
		if r.Intn(3) > 0 {
			c.Budget = 1 + r.Intn(nodes+3)
		}
		out = append(out, c)
	}
	return out
}

// pickings are lists of picks, of few and of many, from below 0 too.
func pickings(r *rand.Rand) [][]int {
	out := [][]int{nil, slices.Repeat([]int{-1}, 300)}
	for _, n := range []int{1, 10, 400} {
		l := []int{}
		for range n {
			l = append(l, r.Intn(200)-100)
		}
		out = append(out, l)
	}
	return out
}

// searches calls f with much that a small tree can be searched by.
func searches(t *testing.T, seed int64, f func(p plan, nought bool, c api.Crew, picks []int)) {
	t.Helper()
	r := rand.New(rand.NewSource(seed))
	for _, p := range smallTrees(t, seed) {
		for _, c := range crews(r, len(p.nodes)) {
			l := pickings(r)
			f(p, r.Intn(2) == 0, c, l[r.Intn(len(l))])
		}
	}
}
