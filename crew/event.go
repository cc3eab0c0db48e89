package crew

import (
	"slices"

	"trammel/api"
	"trammel/zint"
)

// event is one of the worker's, with what belongs to its kind.
func (w *worker) event(what int) api.CrewEvent {
	out := api.CrewEvent{Who: w.number, What: what}
	switch what {
	case api.CrewLook, api.CrewOut, api.CrewOffer:
		// The node stays the worker's own: another event may tell it again.
		out.Node = renewed(w.node)
		fallthrough
	case api.CrewTake, api.CrewDone:
		out.Job = w.job
	}
	return out
}

// alike tells if two events are one.
func alike(a, b api.CrewEvent) bool {
	return a.Who == b.Who && a.What == b.What && a.Job == b.Job && slices.EqualFunc(a.Node, b.Node, equal)
}

func equal(a, b api.Int) bool {
	return zint.Compare(a, b) == 0
}

// renewed are the same numbers in memory of their own.
func renewed(l []api.Int) []api.Int {
	out := make([]api.Int, len(l))
	for i, x := range l {
		out[i] = zint.Form(x)
	}
	return out
}
