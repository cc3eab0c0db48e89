package pool_test

import (
	"math"
	"math/rand"
	"slices"
	"testing"

	"trammel/api"
	"trammel/pool"
)

// PL1.

// wrongWays are options that may not be, each for one reason but the last.
func wrongWays() []api.Opt {
	out := []api.Opt{}
	for _, n := range []int{0, -1, -2, math.MinInt, math.MaxInt, 1 << 32, 1<<32 + 1, -1 << 32, 1 - 1<<32} {
		out = append(out, api.Opt{Workers: n, Budget: 1}, api.Opt{Workers: 1, Budget: n, Filter: true})
	}
	return append(out,
		api.Opt{Workers: api.MaxWorkers + 1, Budget: api.MaxBudget},
		api.Opt{Workers: api.MaxWorkers, Budget: api.MaxBudget + 1},
		api.Opt{Workers: api.MaxWorkers + 1, Budget: api.MaxBudget + 1, Filter: true},
		api.Opt{})
}

func TestValidAtItsEnds(t *testing.T) {
	for _, workers := range []int{1, 2, 63, 64} {
		for _, budget := range []int{1, 2, 1<<20 - 1, 1 << 20} {
			for _, floats := range []bool{false, true} {
				o := api.Opt{Workers: workers, Budget: budget, Filter: floats}
				wantErr(t, "Valid", pool.Valid(o), api.OK)
			}
		}
	}
	for _, o := range append(wrongWays(), api.Opt{Workers: 65, Budget: 1}, api.Opt{Workers: 1, Budget: 1<<20 + 1}) {
		for _, floats := range []bool{false, true} {
			o.Filter = floats
			if e := pool.Valid(o); e != api.ErrOpt {
				t.Errorf("%v: error %d", o, e)
			}
		}
	}
}

func TestOrderByHand(t *testing.T) {
	for _, c := range []struct {
		a, b []api.Int
		want int
	}{
		{nil, nil, 0}, {nil, []api.Int{}, 0}, {nil, vec(0), -1}, {vec(-5), []api.Int{}, 1},
		{vec(1), vec(1), 0}, {vec(0), vec(1), -1}, {vec(-1), vec(-2), 1}, {vec(-1), vec(1), -1},
		{vec(1, 2), vec(1, 2, -9), -1}, {vec(1, 2, -9), vec(1, 2), 1}, {vec(2), vec(1, 2), 1}, {vec(1, 3, 0), vec(1, 2, 7), 1},
		{[]api.Int{num(true, 0, 0)}, vec(0), 0}, {[]api.Int{num(true, 3, 0)}, vec(-3), 0},
		{[]api.Int{num(false, 0, 1)}, []api.Int{num(false, top)}, 1}, {[]api.Int{num(true, 0, 1)}, []api.Int{num(true, top)}, -1},
	} {
		if got := pool.Order(c.a, c.b); got != c.want {
			t.Errorf("%v by %v: %d instead of %d", told(c.a), told(c.b), got, c.want)
		}
	}
}

func TestOrderIsTheModels(t *testing.T) {
	r := rand.New(rand.NewSource(11))
	times := map[int]int{}
	for range 3000 {
		one := digit
		if r.Intn(2) == 0 {
			one = long(3)
		}
		a := drawVector(r, r.Intn(5), one)
		b := drawVector(r, r.Intn(5), one)
		if r.Intn(2) == 0 {
			b = append(slices.Clone(a[:r.Intn(len(a)+1)]), b...)
		}
		want := order(a, b)
		if pool.Order(a, b) != want || pool.Order(b, a) != -want || pool.Order(a, a) != 0 {
			t.Errorf("%v by %v: %d instead of %d", told(a), told(b), pool.Order(a, b), want)
		}
		times[want]++
	}
	if times[-1] < 500 || times[0] < 50 || times[1] < 500 {
		t.Errorf("%v is not much of each", times)
	}
}
