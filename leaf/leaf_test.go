package leaf_test

import (
	"testing"

	"trammel/api"
	"trammel/leaf"
	"trammel/rat"
	"trammel/zint"
)

func vec(l ...int) []api.Int {
	out := []api.Int{}
	for _, n := range l {
		out = append(out, zint.Of(int64(n)))
	}
	return out
}

// by is a by b.
func by(a, b int) api.Rat {
	return api.Rat{Num: zint.Of(int64(a)), Den: zint.Of(int64(b))}
}

// text is of a rational that may be.
func text(r api.Rat) string {
	out, _ := rat.Text(r)
	return out
}

// flat is a tree of so many rows.
func flat(n int) api.Tree {
	out := api.Tree{R: by(1, 1), G: api.Gso{D: vec(1)}}
	for i := range n {
		out.G.D = append(out.G.D, zint.Of(1))
		out.G.L = append(out.G.L, make([]api.Int, i))
	}
	return out
}

func TestWhichLeavesCount(t *testing.T) {
	nought := api.Int{Neg: true, Mag: []uint32{0, 0}}
	for _, c := range []struct {
		node         []api.Int
		is, counts   bool
		countsNought bool
	}{
		{nil, false, false, false}, {vec(1), false, false, false}, {vec(1, 0), true, true, true}, {vec(0, -1), true, true, true},
		{vec(0, 0), true, false, true}, {[]api.Int{nought, nought}, true, false, true}, {vec(1, 2, 3), false, false, false},
	} {
		tr := flat(2)
		if leaf.Is(tr, c.node) != c.is || leaf.Counts(tr, c.node, false) != c.counts || leaf.Counts(tr, c.node, true) != c.countsNought {
			t.Errorf("%v: %v, %v, %v", c.node, leaf.Is(tr, c.node), leaf.Counts(tr, c.node, false), leaf.Counts(tr, c.node, true))
		}
	}
}

func TestFoundStandsByRows(t *testing.T) {
	node, part := vec(3, -2, 0), by(4, 6)
	f := leaf.Found(node, part)
	node[0].Mag[0], part.Num.Mag[0], part.Den.Mag[0] = 9, 9, 9
	if leaf.Order(f.X, vec(0, -2, 3)) != 0 || text(f.N) != "2/3" {
		t.Errorf("%v of %s", f.X, text(f.N))
	}
	if f = leaf.Found(nil, by(0, 5)); len(f.X) != 0 || text(f.N) != "0" {
		t.Errorf("%v of %s", f.X, text(f.N))
	}
}

func TestOrderIsNumberByNumber(t *testing.T) {
	rising := [][]api.Int{nil, vec(-3), vec(-3, -9), vec(-3, 2), vec(0), vec(0, 0), vec(1, -5, 3), vec(1, -4), vec(12)}
	for i, a := range rising {
		for j, b := range rising {
			want := 0
			if i < j {
				want = -1
			} else if i > j {
				want = 1
			}
			if got := leaf.Order(a, b); got != want {
				t.Errorf("%v by %v: %d", a, b, got)
			}
		}
	}
}
