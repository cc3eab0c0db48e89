package crew

import (
	"slices"

	"trammel/api"
	"trammel/leaf"
	"trammel/queue"
)

// cutter is whose events those of done nodes are.
const cutter = -1

// machine is a crew at its work, which makes one event after another.
type machine struct {
	tree   api.Tree
	nought bool
	budget int
	done   queue.Queue[[]api.Int] // those that are yet to be expanded
	jobs   queue.Queue[api.Job]
	taken  int       // how many jobs were taken
	left   []*worker // those that have not ended, by rising numbers
	spent  int
	out    bool
	best   leaf.Haul
}

// machineOf keeps the tree as it is: it is not to be used beyond the call that the tree came with.
func machineOf(t api.Tree, nought bool, c api.Crew) (*machine, api.Errno) {
	done, jobs, e := cut(t, c)
	if e != api.OK {
		return nil, e
	}
	m := &machine{tree: t, nought: nought, budget: c.Budget, best: leaf.Below(t.R)}
	m.done.Add(done...)
	m.jobs.Add(jobs...)
	for number := range c.Workers {
		m.left = append(m.left, newWorker(m, number))
	}
	return m, api.OK
}

// isCutting tells if a done node is to be expanded next.
func (m *machine) isCutting() bool {
	return !m.out && m.done.Many() > 0
}

// isWorking tells if a worker is to be picked next.
func (m *machine) isWorking() bool {
	return !m.out && !m.isCutting() && len(m.left) > 0
}

// cut expands a done node.
func (m *machine) cut() api.CrewEvent {
	node, _ := m.done.Take()
	m.spent++
	m.out = m.isSpent() && m.done.Many() > 0
	return api.CrewEvent{Who: cutter, What: api.CrewLook, Node: node}
}

// isSpent tells if no node may be expanded any more.
func (m *machine) isSpent() bool {
	return m.spent == m.budget
}

// picked is the worker whom a pick means.
func (m *machine) picked(pick int) *worker {
	place := pick % len(m.left)
	if place < 0 {
		place += len(m.left)
	}
	return m.left[place]
}

// by is the event that is made next, if a worker's, then by this one; false, if it can't take a step.
func (m *machine) by(who int) (api.CrewEvent, bool) {
	if m.isCutting() {
		return m.cut(), true
	}
	at := slices.IndexFunc(m.left, func(w *worker) bool { return w.number == who })
	if !m.isWorking() || at < 0 {
		return api.CrewEvent{}, false
	}
	return m.left[at].next(), true
}

// ends takes a worker off those that have not ended.
func (m *machine) ends(w *worker) {
	m.left = slices.DeleteFunc(m.left, func(other *worker) bool { return other == w })
}
