package crew_test

import (
	"math"
	"math/rand"
	"slices"
	"testing"

	"trammel/api"
	"trammel/crew"
)

// P14.4.

func wantReplay(t *testing.T, tr api.Tree, nought bool, c api.Crew, l []api.CrewEvent, want int) {
	t.Helper()
	n, e := crew.Replay(tr, nought, c, l)
	if n != want || e != api.OK {
		t.Errorf("%v: %d, error %d instead of %d: %s", c, n, e, want, inWords(api.CrewRun{Events: l}))
	}
}

// replay is the first event that a shadow doesn't make, whoever is picked.
func (s *shadow) replay(l []api.CrewEvent) int {
	cut := s.cut()
	for at, e := range l {
		switch {
		case at < len(cut):
			if !alikeEvent(e, cut[at]) {
				return at
			}
		case s.out || !slices.Contains(s.awake(), e.Who) || !alikeEvent(e, s.step(e.Who)):
			return at
		}
	}
	return len(l)
}

// spoiled are events next to e.
func spoiled(e api.CrewEvent) []api.CrewEvent {
	out := []api.CrewEvent{}
	for _, f := range []func(e *api.CrewEvent){
		func(e *api.CrewEvent) { e.Who++ },
		func(e *api.CrewEvent) { e.Who-- },
		func(e *api.CrewEvent) { e.Who = -1 },
		func(e *api.CrewEvent) { e.Who = math.MaxInt },
		func(e *api.CrewEvent) { e.Who = math.MinInt },
		func(e *api.CrewEvent) { e.What++ },
		func(e *api.CrewEvent) { e.What = 0 },
		func(e *api.CrewEvent) { e.What = -1 },
		func(e *api.CrewEvent) { e.What = 7 },
		func(e *api.CrewEvent) { e.What = api.CrewLook },
		func(e *api.CrewEvent) { e.What = api.CrewOut },
		func(e *api.CrewEvent) { e.What = api.CrewOffer },
		func(e *api.CrewEvent) { e.What = api.CrewDone },
		func(e *api.CrewEvent) { e.What = api.CrewEnd },
		func(e *api.CrewEvent) { e.Job++ },
		func(e *api.CrewEvent) { e.Job-- },
		func(e *api.CrewEvent) { e.Job = 0 },
		func(e *api.CrewEvent) { e.Node = append(slices.Clone(e.Node), small(0)) },
		func(e *api.CrewEvent) { e.Node = slices.Clone(e.Node)[:max(0, len(e.Node)-1)] },
		func(e *api.CrewEvent) { e.Node = append(vec(1), e.Node...) },
		func(e *api.CrewEvent) { e.Node = vec(5, 7) },
		func(e *api.CrewEvent) {
			e.Node = slices.Clone(e.Node)
			for i, a := range e.Node[:min(1, len(e.Node))] {
				e.Node[i] = num(!a.Neg, append(slices.Clone(a.Mag), 1)...)
			}
		},
	} {
		other := e
		f(&other)
		out = append(out, other)
	}
	return out
}

// TestReplayOfASpoiledEvent, beside the shadow, as somebody else may make the same.
func TestReplayOfASpoiledEvent(t *testing.T) {
	found, kept := 0, 0
	r := rand.New(rand.NewSource(41))
	searches(t, 42, func(p plan, nought bool, c api.Crew, picks []int) {
		if r.Intn(3) > 0 {
			return
		}
		l := shadowOf(t, p, nought, c).play(picks)
		for range 4 {
			at := r.Intn(len(l) + 1)
			if at == len(l) {
				continue
			}
			others := spoiled(l[at])
			other := slices.Clone(l)
			other[at] = others[r.Intn(len(others))]
			want := shadowOf(t, p, nought, c).replay(other)
			wantReplay(t, p.tr, nought, c, other, want)
			if want == at {
				found++
			} else {
				kept++
			}
		}
	})
	if found < 200 || kept < 10 {
		t.Errorf("%d found, %d kept are few", found, kept)
	}
}

// TestEachFieldIsHeld at each event of a run of all kinds.
func TestEachFieldIsHeld(t *testing.T) {
	c := api.Crew{Many: 4, Workers: 2, Budget: 7}
	l := shadowOf(t, squarePlan(t), false, c).play([]int{0, 1, 0, 1, 0, 1, 1, 0, 0, 1, 1, 1, 0, 1})
	for at, e := range l {
		for _, other := range spoiled(e) {
			if alikeEvent(e, other) {
				continue
			}
			spoilt := slices.Clone(l)
			spoilt[at] = other
			want := shadowOf(t, squarePlan(t), false, c).replay(spoilt)
			wantReplay(t, square(t), false, c, spoilt, want)
			if e.Who == other.Who && want != at {
				t.Errorf("%v instead of %v: %d", other, e, want)
			}
		}
	}
}

// TestReplayAheadOfTheEnd: all that begins a run is all of it, and none is made behind the end.
func TestReplayAheadOfTheEnd(t *testing.T) {
	r := rand.New(rand.NewSource(43))
	searches(t, 44, func(p plan, nought bool, c api.Crew, picks []int) {
		if r.Intn(4) > 0 {
			return
		}
		run, _ := crew.Play(p.tr, nought, c, picks)
		l := run.Events
		wantReplay(t, p.tr, nought, c, l, len(l))
		wantReplay(t, p.tr, nought, c, nil, 0)
		for range 3 {
			n := r.Intn(len(l) + 1)
			wantReplay(t, p.tr, nought, c, l[:n], n)
		}
		for who := -2; who <= c.Workers; who++ {
			for what := range 8 {
				wantReplay(t, p.tr, nought, c, append(slices.Clone(l), event(who, what, 0), event(who, what, 0)), len(l))
			}
		}
		last := l[max(0, len(l)-1):]
		wantReplay(t, p.tr, nought, c, append(slices.Clone(l), last...), len(l))
	})
}

// TestReplayOfAnyPicks: whoever is drawn makes the next event.
func TestReplayOfAnyPicks(t *testing.T) {
	r := rand.New(rand.NewSource(45))
	searches(t, 46, func(p plan, nought bool, c api.Crew, _ []int) {
		if r.Intn(3) > 0 {
			return
		}
		s := shadowOf(t, p, nought, c)
		l := s.cut()
		for !s.ends() {
			awake := s.awake()
			l = append(l, s.step(awake[r.Intn(len(awake))]))
		}
		wantReplay(t, p.tr, nought, c, l, len(l))
	})
}

// TestReplayOfWhatIsOutOfTurn: workers wait for the cut nodes, and nobody else may look at these.
func TestReplayOfWhatIsOutOfTurn(t *testing.T) {
	c := api.Crew{Many: 6, Workers: 2, Budget: 9}
	cut := []api.CrewEvent{event(-1, api.CrewLook, 0, 0), event(-1, api.CrewLook, 0, 1), event(-1, api.CrewLook, 0, -1)}
	take := event(0, api.CrewTake, 0)
	for n := range 3 {
		wantReplay(t, square(t), false, c, append(slices.Clone(cut[:n]), take), n)
		other := slices.Clone(cut)
		other[n].Who = 0
		wantReplay(t, square(t), false, c, other, n)
	}
	wantReplay(t, square(t), false, c, append(slices.Clone(cut), take), 4)
	wantReplay(t, square(t), false, c, append(slices.Clone(cut), cut[0]), 3)
	wantReplay(t, square(t), false, c, []api.CrewEvent{cut[1], cut[0], cut[2]}, 0)
	// A machine that is out among the cut nodes makes nothing any more.
	c.Budget = 2
	wantReplay(t, square(t), false, c, cut, 2)
	wantReplay(t, square(t), false, c, append(slices.Clone(cut[:2]), take), 2)
}
