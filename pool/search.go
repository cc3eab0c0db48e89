package pool

import (
	"sync"
	"sync/atomic"

	"trammel/api"
	"trammel/filter"
	"trammel/leaf"
	"trammel/split"
	"trammel/tree"
	"trammel/walk"
)

// jobsEach is how many jobs a worker is to have at least, so that none works on long when all others have ended.
const jobsEach = 4

// search is one search of a tree; what its workers share stands in it.
type search struct {
	tree    api.Tree
	options api.Opt
	nought  bool              // if a leaf of noughts alone is brought, too
	bring   func(l api.Found) // takes a leaf; nil, if leaves are of no use
	filter  *filter.Filter    // decides which jobs are too far off; nil, if floats may not
	jobs    chan api.Job
	workers sync.WaitGroup
	spent   atomic.Int64 // the nodes that were looked at, and those for which the budget was used up
	stop    sync.Once
	stopped chan struct{} // closed, when all are to stop
	lock    sync.Mutex    // of the haul, and so of the bound
	haul    leaf.Haul
}

// searchOf keeps the tree as it is: it is not to be used beyond the call that the tree came with.
func searchOf(t api.Tree, o api.Opt) (*search, api.Errno) {
	if e := tree.Valid(t); e != api.OK {
		return nil, e
	}
	if e := Valid(o); e != api.OK {
		return nil, e
	}
	return &search{
		tree:    t,
		options: o,
		nought:  true,
		jobs:    make(chan api.Job, o.Workers),
		stopped: make(chan struct{}),
		haul:    leaf.Below(t.R),
	}, api.OK
}

// run looks at all nodes that may be of use, and tells how many these were; ErrBudget, if they are too many. All workers have ended then.
func (s *search) run() (int, api.Errno) {
	done, jobs := s.cut()
	s.spend(len(done))
	for range s.options.Workers {
		s.workers.Go(s.work)
	}
	for _, job := range jobs {
		// Who has stopped still receives, so that none is sent in vain.
		s.jobs <- job
	}
	close(s.jobs)
	s.workers.Wait()
	if s.isStopped() {
		return 0, api.ErrBudget
	}
	return int(s.spent.Load()), api.OK
}

// cut is the nodes that are looked at ahead of all jobs, none of them a leaf, and the jobs.
func (s *search) cut() ([][]api.Int, []api.Job) {
	many := 1
	if s.options.Workers > 1 {
		many = jobsEach * s.options.Workers
	}
	done, jobs, e := split.Jobs(s.tree, many)
	if e != api.OK {
		// A tree that is too wide to be cut stays one job.
		done, jobs, _ = split.Jobs(s.tree, 1)
	}
	return done, jobs
}

// spend takes some nodes from the budget; false, if it has not as many: then all stop.
func (s *search) spend(nodes int) bool {
	if s.spent.Add(int64(nodes)) <= int64(s.options.Budget) {
		return true
	}
	s.stop.Do(func() { close(s.stopped) })
	return false
}

func (s *search) isStopped() bool {
	select {
	case <-s.stopped:
		return true
	default:
		return false
	}
}

// work is a worker's: one job after another, till there is none any more.
func (s *search) work() {
	for job := range s.jobs {
		if !s.isStopped() && s.isNear(job.Root) {
			s.look(job.Root)
		}
	}
}

// isNear tells if a job may have a node within the bound.
func (s *search) isNear(root []api.Int) bool {
	if s.filter == nil {
		return true
	}
	near, _ := s.filter.Decide(root, s.bound())
	return near
}

// look looks at all nodes that begin with a root and are within the bound, which may shrink on the way.
func (s *search) look(root []api.Int) {
	w, _ := walk.New(s.tree, root)
	for !s.isStopped() {
		w.Shrink(s.bound())
		node, some := w.Next()
		if !some || !s.spend(1) {
			return
		}
		if s.bring != nil && leaf.Counts(s.tree, node, s.nought) {
			part, _ := w.Part()
			s.bring(leaf.Found(node, part))
		}
	}
}

// bound is what a node's part may be at most.
func (s *search) bound() api.Rat {
	s.lock.Lock()
	defer s.lock.Unlock()
	return s.haul.Bound()
}

// keep takes any leaf.
func (s *search) keep(l api.Found) {
	s.lock.Lock()
	defer s.lock.Unlock()
	s.haul.Keep(l)
}

// offer takes a leaf, if none that was taken is nearer: then the bound shrinks to its part.
func (s *search) offer(l api.Found) {
	s.lock.Lock()
	defer s.lock.Unlock()
	s.haul.Offer(l)
}

// found is what was taken, in order; ErrLong, if that is too much. All workers have ended.
func (s *search) found() ([]api.Found, api.Errno) {
	out := s.haul.InOrder()
	if len(out) > api.MaxNodes {
		return nil, api.ErrLong
	}
	return out, api.OK
}
