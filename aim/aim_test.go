package aim_test

import (
	"testing"

	"trammel/aim"
	"trammel/api"
	"trammel/gso"
	"trammel/rat"
	"trammel/zint"
)

func vec(l ...int64) []api.Int {
	out := []api.Int{}
	for _, n := range l {
		out = append(out, zint.Of(n))
	}
	return out
}

func q(a, b int64) api.Rat { return api.Rat{Num: zint.Of(a), Den: zint.Of(b)} }

// text is a rational in lowest terms.
func text(t *testing.T, r api.Rat) string {
	t.Helper()
	s, e := rat.Text(r)
	if e != api.OK {
		t.Errorf("%v by %v may not be", r.Num, r.Den)
	}
	return s
}

// aims are one of the data of rows, and one of data that no rows have, in which nothing comes out even.
func aims(t *testing.T) []*aim.Aim {
	t.Helper()
	g, e := gso.Of([][]api.Int{vec(2, 1, 0), vec(1, 3, 1), vec(0, -1, 4)})
	if e != api.OK {
		t.Fatalf("Of: error %d", e)
	}
	odd := api.Gso{D: vec(1, 7, 5, 3), L: [][]api.Int{nil, vec(2), vec(-3, 11)}}
	target := []api.Rat{q(1, 2), q(-2, 6), q(5, 4)}
	return []*aim.Aim{aim.Of(g, nil), aim.Of(g, target), aim.Of(odd, nil), aim.Of(odd, target)}
}

func TestWrittenOut(t *testing.T) {
	g := api.Gso{D: vec(1, 2, 4), L: [][]api.Int{nil, vec(2)}}
	a := aim.Of(g, []api.Rat{q(1, 3), q(1, 2)})
	if a.Rows() != 2 {
		t.Errorf("Rows: %d", a.Rows())
	}
	shifts, den := a.Shifts(vec(1, -1))
	if len(shifts) != 2 || zint.Text(shifts[0]) != "3" || zint.Text(shifts[1]) != "-8" || zint.Text(den) != "6" {
		t.Errorf("Shifts: %v by %v", shifts, den)
	}
	// Of the last row 1/2 is off, squared and twice; of the first one the centre is 1/3 less 1/2.
	s := a.At(vec(1))
	if text(t, s.Norm()) != "1/2" || text(t, s.Centre()) != "-1/6" || s.Left() != 1 {
		t.Errorf("of 1: %v, %v, %d", s.Norm(), s.Centre(), s.Left())
	}
	for _, c := range []struct {
		r           api.Rat
		least, most string
		some        bool
	}{
		{q(3, 1), "-1", "0", true},
		{q(5, 9), "0", "0", true},
		{q(10, 18), "0", "0", true},
		{q(554, 1000), "0", "0", false},
		{q(1, 3), "0", "0", false},
		{q(-1, 3), "0", "0", false},
	} {
		least, most, some := s.Within(c.r)
		if zint.Text(least) != c.least || zint.Text(most) != c.most || some != c.some {
			t.Errorf("Within(%s): %v, %v, %v", text(t, c.r), least, most, some)
		}
	}
	if s := s.Child(zint.Of(0)); text(t, s.Norm()) != "5/9" || s.Left() != 0 {
		t.Errorf("of 1, 0: %v, %d", s.Norm(), s.Left())
	}
}

// TestOneGoesOnFromASpotSeveralTimes: whatever was made from a spot, it and its other children stay what they are.
func TestOneGoesOnFromASpotSeveralTimes(t *testing.T) {
	for _, a := range aims(t) {
		for x := range int64(3) {
			s := a.At(vec(x))
			before := text(t, s.Norm()) + " " + text(t, s.Centre())
			kids := []aim.Spot{}
			for y := range int64(3) {
				kids = append(kids, s.Child(zint.Of(y)))
			}
			for y, kid := range kids {
				for z := range int64(3) {
					sure := a.At(vec(x, int64(y), z))
					if text(t, kid.Child(zint.Of(z)).Norm()) != text(t, sure.Norm()) || sure.Left() != 0 {
						t.Errorf("%d, %d, %d: it hangs on the way", x, y, z)
					}
				}
				sure := a.At(vec(x, int64(y)))
				if text(t, kid.Norm()) != text(t, sure.Norm()) || text(t, kid.Centre()) != text(t, sure.Centre()) {
					t.Errorf("%d, %d: it hangs on the way", x, y)
				}
			}
			if after := text(t, s.Norm()) + " " + text(t, s.Centre()); after != before {
				t.Errorf("%d: %s became %s", x, before, after)
			}
		}
	}
}

// TestManyRows: spots of all lengths are kept, and gone on from only when all of them are there.
func TestManyRows(t *testing.T) {
	g := api.Gso{D: []api.Int{zint.Of(1)}}
	for i := range int64(8) {
		row := []api.Int{}
		for j := range i {
			row = append(row, zint.Of(3*i-5*j+1))
		}
		g.D, g.L = append(g.D, zint.Of(i+2)), append(g.L, row)
	}
	type kept struct {
		x    []int64
		spot aim.Spot
	}
	a := aim.Of(g, nil)
	all := []kept{{nil, a.At(nil)}}
	for range a.Rows() {
		more := []kept{}
		for _, k := range all {
			for n := range int64(2) {
				more = append(more, kept{append(k.x[:len(k.x):len(k.x)], n), k.spot.Child(zint.Of(n))})
			}
		}
		all = more
		for _, k := range all {
			if sure := a.At(vec(k.x...)); text(t, k.spot.Norm()) != text(t, sure.Norm()) {
				t.Fatalf("%v: it hangs on the way", k.x)
			}
		}
	}
}

// TestAChildGrowsByHowFarItIsOffTheCentre, squared, times Star.
func TestAChildGrowsByHowFarItIsOffTheCentre(t *testing.T) {
	star := []api.Rat{q(7, 1), q(5, 7), q(3, 5)}
	a := aims(t)[3]
	for _, x := range [][]api.Int{nil, vec(2), vec(-1, 3)} {
		s := a.At(x)
		for n := range int64(5) {
			off, _ := rat.Sub(rat.Of(zint.Of(n)), s.Centre())
			off, _ = rat.Mul(off, off)
			off, _ = rat.Mul(off, star[s.Left()-1])
			sure, _ := rat.Add(s.Norm(), off)
			if got := s.Child(zint.Of(n)).Norm(); text(t, got) != text(t, sure) {
				t.Errorf("%v and %d: %s instead of %s", x, n, text(t, got), text(t, sure))
			}
		}
	}
}
