package split_test

import (
	"slices"
	"sync"
	"testing"

	"trammel/api"
	"trammel/split"
	"trammel/tree"
	"trammel/walk"
)

// SP5, and G3 as far as this layer reaches, by the program's own calls.

// narrowTrees are many that can be cut at least once.
func narrowTrees(seed int64) []api.Tree {
	return slices.DeleteFunc(trees(seed), isWide)
}

// TestWhatJobsTellsIsCovered.
func TestWhatJobsTellsIsCovered(t *testing.T) {
	many := 0
	for _, tr := range append(narrowTrees(40), smallTrees(t, 41)...) {
		for _, n := range []int{1, 2, 9, 60} {
			done, jobs, e := split.Jobs(tr, n)
			if e == api.ErrLong {
				continue
			}
			_, whole, _ := tree.Nodes(tr, 500)
			if is, all, e := split.Covers(tr, done, jobs, 500); !is || all != whole || e != api.OK {
				t.Errorf("cut to %d: %v, %v, error %d", n, is, all, e)
			}
			many++
		}
	}
	if many < 300 {
		t.Errorf("%d are few", many)
	}
}

// TestEachNodeIsInOnePlace: done nodes and those below the jobs are all of the tree's, each once.
func TestEachNodeIsInOnePlace(t *testing.T) {
	for _, tr := range smallTrees(t, 42) {
		nodes, _, _ := tree.Nodes(tr, api.MaxNodes)
		for _, n := range []int{1, 2, 3, 5, 10, 30, api.MaxJobs} {
			all, jobs, _ := split.Jobs(tr, n)
			for _, j := range jobs {
				own, _, _ := split.Below(tr, j, api.MaxNodes)
				for _, node := range own {
					if !begins(node, j.Root) {
						t.Errorf("%v is below %v", told(node), told(j.Root))
					}
				}
				all = append(all, own...)
			}
			if len(all) != len(nodes) {
				t.Errorf("cut to %d: %d nodes instead of %d", n, len(all), len(nodes))
			}
			for _, node := range nodes {
				if !slices.ContainsFunc(all, func(s []api.Int) bool { return alikeRow(s, node) }) {
					t.Errorf("cut to %d: %v is nowhere", n, told(node))
				}
			}
		}
	}
}

// TestAsManyJobsAsWereAskedFor come, or all that is left are leaves.
func TestAsManyJobsAsWereAskedFor(t *testing.T) {
	for _, tr := range append(narrowTrees(43), smallTrees(t, 44)...) {
		for _, n := range []int{1, 2, 7, 50, 300} {
			_, jobs, e := split.Jobs(tr, n)
			if e == api.ErrLong || len(jobs) >= n {
				continue
			}
			leaves, all, _ := tree.Nodes(tr, api.MaxNodes)
			leaves = slices.DeleteFunc(leaves, func(s []api.Int) bool { return len(s) < len(tr.G.L) })
			if !all || len(jobs) != len(leaves) {
				t.Errorf("asked for %d: %d jobs, and %d leaves", n, len(jobs), len(leaves))
			}
			for _, j := range jobs {
				if len(j.Root) < len(tr.G.L) {
					t.Errorf("asked for %d: %v is left", n, told(j.Root))
				}
			}
		}
	}
}

// TestDoneNodesAreThoseAboveTheJobs, or without children: a done node's children are done or jobs.
func TestDoneNodesAreThoseAboveTheJobs(t *testing.T) {
	for _, tr := range smallTrees(t, 45) {
		for _, n := range []int{1, 2, 8, 25} {
			done, jobs, _ := split.Jobs(tr, n)
			there := slices.Concat(done, rootsOf(jobs))
			for _, s := range done {
				kids, _, _ := tree.Kids(tr, s, api.MaxNodes)
				for _, x := range kids {
					kid := append(slices.Clone(s), x)
					if !slices.ContainsFunc(there, func(o []api.Int) bool { return alikeRow(o, kid) }) {
						t.Errorf("%v is done, and %v is nowhere", told(s), told(kid))
					}
				}
			}
		}
	}
}

// TestBelowIsWhatAWalkerTells.
func TestBelowIsWhatAWalkerTells(t *testing.T) {
	for _, tr := range append(trees(46), smallTrees(t, 47)...) {
		jobs := []api.Job{{}}
		if !isWide(tr) {
			_, more, _ := split.Jobs(tr, 5)
			jobs = append(jobs, more...)
		}
		for _, j := range jobs[:min(6, len(jobs))] {
			for _, most := range []int{0, 1, 7, 30} {
				nodes, all, _ := walk.Run(tr, j.Root, most)
				wantBelow(t, tr, j.Root, most, all, nodes...)
			}
		}
	}
}

// searched is how many nodes and leaves workers find who each search the jobs that are their own.
func searched(tr api.Tree, many, workers int) (int, int) {
	done, jobs, _ := split.Jobs(tr, many)
	shares, _ := split.Share(len(jobs), workers)
	nodes, leaves := make([]int, workers), make([]int, workers)
	var all sync.WaitGroup
	for w, share := range shares {
		all.Go(func() {
			for _, place := range share {
				own, _, _ := split.Below(tr, jobs[place], api.MaxNodes)
				nodes[w] += len(own)
				for _, s := range own {
					if len(s) == len(tr.G.L) {
						leaves[w]++
					}
				}
			}
		})
	}
	all.Wait()
	a, b := len(done), 0
	for w := range workers {
		a, b = a+nodes[w], b+leaves[w]
	}
	return a, b
}

// TestNoAnswerHangsOnTheWorkers, nor on how many jobs there are.
func TestNoAnswerHangsOnTheWorkers(t *testing.T) {
	for _, tr := range smallTrees(t, 48) {
		counts, _, _ := tree.Count(tr, api.MaxNodes)
		sum := 0
		for _, n := range counts {
			sum += n
		}
		for _, many := range []int{1, 4, 40} {
			for _, workers := range []int{1, 2, 5, api.MaxWorkers} {
				nodes, leaves := searched(tr, many, workers)
				if nodes != sum || leaves != counts[len(counts)-1] {
					t.Errorf("%d jobs, %d workers: %d nodes, %d leaves, instead of %d and %v", many, workers, nodes, leaves, sum, counts)
				}
			}
		}
	}
}
