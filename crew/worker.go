package crew

import (
	"trammel/api"
	"trammel/leaf"
	"trammel/walk"
)

// worker is one of a crew.
type worker struct {
	crew   *machine
	number int
	next   func() api.CrewEvent // its next step
	job    int
	walk   *walk.Walker // over its job
	node   []api.Int    // the last one that walk told
}

func newWorker(crew *machine, number int) *worker {
	w := &worker{crew: crew, number: number}
	w.next = w.free
	return w
}

// free takes a job, or ends.
func (w *worker) free() api.CrewEvent {
	job, some := w.crew.jobs.Take()
	if !some {
		w.crew.ends(w)
		return w.event(api.CrewEnd)
	}
	w.job = w.crew.taken
	w.crew.taken++
	w.walk, _ = walk.New(w.crew.tree, job.Root)
	w.next = w.walking
	return w.event(api.CrewTake)
}

// walking looks at the job's next node.
func (w *worker) walking() api.CrewEvent {
	w.walk.Shrink(w.crew.best.Bound())
	node, some := w.walk.Next()
	w.node = node
	switch {
	case !some:
		w.next = w.free
		return w.event(api.CrewDone)
	case w.crew.isSpent():
		w.crew.out = true
		return w.event(api.CrewOut)
	}
	w.crew.spent++
	if leaf.Counts(w.crew.tree, node, w.crew.nought) {
		w.next = w.offering
	}
	return w.event(api.CrewLook)
}

// offering offers the leaf at which the walker stands.
func (w *worker) offering() api.CrewEvent {
	part, _ := w.walk.Part()
	w.crew.best.Offer(leaf.Found(w.node, part))
	w.next = w.walking
	return w.event(api.CrewOffer)
}
