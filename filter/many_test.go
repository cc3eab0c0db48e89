package filter_test

import (
	"math/rand"
	"sync"
	"testing"

	"trammel/api"
	"trammel/filter"
	"trammel/gso"
)

// Many may ask one filter, also for the first time.

func TestManyAskOneFilter(t *testing.T) {
	r := rand.New(rand.NewSource(95))
	g, _ := gso.Of(drawBasis(r, 5, digit))
	s := subject{g, targets(r, 5)[4]}
	m := modelOf(s)
	type asked struct {
		x []api.Int
		r api.Rat
		k int
	}
	all := []asked{}
	byTest, byExact := 0, 0
	for _, x := range suffixes(r, 5) {
		for _, bound := range bounds(m.norm(x))[:8] {
			k := tested(m.interval(x), bound)
			all = append(all, asked{x, bound, k})
			if k == filter.Unsure {
				byExact++
			} else {
				byTest++
			}
		}
	}
	const workers = 8
	for range 20 {
		f := made(t, s)
		start := make(chan struct{})
		var done sync.WaitGroup
		for range workers {
			done.Go(func() {
				<-start
				for _, a := range all {
					if i, e := f.Enclose(a.x); !equal(i, m.interval(a.x)) || e != api.OK {
						t.Errorf("Enclose: %v, error %d", i, e)
					}
					if k, e := f.Test(a.x, a.r); k != a.k || e != api.OK {
						t.Errorf("Test: %d instead of %d, error %d", k, a.k, e)
					}
					if is, e := f.Decide(a.x, a.r); is != (m.norm(a.x).Cmp(value(a.r)) <= 0) || e != api.OK {
						t.Errorf("Decide: %v, error %d", is, e)
					}
				}
			})
		}
		close(start)
		done.Wait()
		wantCounts(t, f, workers*byTest, workers*byExact)
	}
}

// TestManyAskForTheFirstTime: the filter's intervals are made once, whoever comes first.
func TestManyAskForTheFirstTime(t *testing.T) {
	r := rand.New(rand.NewSource(96))
	g, _ := gso.Of(drawBasis(r, 12, digit))
	s := subject{g: g}
	x := drawVector(r, 12, digit)
	sure := modelOf(s).interval(x)
	for range 500 {
		f := made(t, s)
		start := make(chan struct{})
		var done sync.WaitGroup
		for range 8 {
			done.Go(func() {
				<-start
				if i, e := f.Enclose(x); !equal(i, sure) || e != api.OK {
					t.Errorf("Enclose: %v, error %d, instead of %v", i, e, sure)
				}
			})
		}
		close(start)
		done.Wait()
	}
}

// TestCountsAreOfOneMoment: one asks by turns what the test and what exact numbers answer, so at no moment one of both is ahead by more than one.
func TestCountsAreOfOneMoment(t *testing.T) {
	g, _ := gso.Of(rows(vec(1, 1), vec(0, 2)))
	f := made(t, subject{g: g})
	var done sync.WaitGroup
	over := make(chan struct{})
	ask := func(r api.Rat) { f.Decide(vec(1), r) }
	done.Go(func() {
		defer close(over)
		for range 20000 {
			ask(q(3, 1))
			ask(q(2, 1))
		}
	})
	done.Go(func() {
		for k := 0; ; k++ {
			select {
			case <-over:
				return
			default:
			}
			if a, b := f.Counts(); a-b < -1 || a-b > 1 || a < 0 || b < 0 {
				t.Errorf("Counts: %d, %d", a, b)
			}
			if k%100 == 0 {
				f.Reset()
			}
		}
	})
	done.Wait()
}
