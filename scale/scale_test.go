package scale_test

import (
	"testing"

	"trammel/api"
	"trammel/scale"
	"trammel/zint"
)

func q(a, b int64) api.Rat { return api.Rat{Num: zint.Of(a), Den: zint.Of(b)} }

func TestWhole(t *testing.T) {
	long, _ := zint.Power(zint.Of(10), 30)
	for _, c := range []struct {
		t    []api.Rat
		nums []string
		den  string
	}{
		{nil, nil, "1"},
		{[]api.Rat{q(5, 1)}, []string{"5"}, "1"},
		{[]api.Rat{q(1, 4), q(-5, 6)}, []string{"3", "-10"}, "12"},
		{[]api.Rat{q(2, 4), q(0, 6), q(-1, 3)}, []string{"6", "0", "-4"}, "12"},
		{[]api.Rat{q(1, 7), {Num: zint.Of(-1), Den: long}}, []string{"1000000000000000000000000000000", "-7"}, "7000000000000000000000000000000"},
		{[]api.Rat{{Num: api.Int{Neg: true, Mag: []uint32{0, 0}}, Den: api.Int{Mag: []uint32{3, 0}}}}, []string{"0"}, "3"},
	} {
		nums, den := scale.Whole(c.t)
		if len(nums) != len(c.nums) || zint.Text(den) != c.den {
			t.Errorf("Whole(%v): %v by %v", c.t, nums, den)
			continue
		}
		for i, n := range nums {
			if zint.Text(n) != c.nums[i] {
				t.Errorf("Whole(%v): %s at %d instead of %s", c.t, zint.Text(n), i, c.nums[i])
			}
		}
	}
}

func TestMayBe(t *testing.T) {
	good := []api.Rat{q(1, 2), q(0, 1), {Num: zint.Of(-3), Den: api.Int{Mag: []uint32{0, 1, 0}}}}
	if !scale.MayBe(nil) || !scale.MayBe(good) {
		t.Errorf("what may be is refused")
	}
	for _, bad := range []api.Rat{{}, q(1, 0), q(1, -2), {Num: zint.Of(1), Den: api.Int{Mag: []uint32{0, 0}}}, {Num: zint.Of(1), Den: api.Int{Neg: true, Mag: []uint32{0}}}} {
		for at := range good {
			l := append([]api.Rat{}, good...)
			l[at] = bad
			if scale.MayBe(l) {
				t.Errorf("%v at %d is let", bad, at)
			}
		}
	}
}
