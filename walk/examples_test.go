package walk_test

import (
	"testing"

	"trammel/api"
	"trammel/walk"
)

// The examples of the chapter, and some more that are written out.

func wantNext(t *testing.T, w *walk.Walker, nodes ...[]api.Int) {
	t.Helper()
	for _, node := range nodes {
		if s, some := w.Next(); !alikeRow(s, node) || !some {
			t.Errorf("Next: %v, %v, instead of %v", told(s), some, told(node))
		}
	}
}

func wantEnd(t *testing.T, w *walk.Walker) {
	t.Helper()
	for range 3 {
		if s, some := w.Next(); len(s) != 0 || some {
			t.Errorf("Next at the end: %v, %v", told(s), some)
		}
	}
}

func wantSave(t *testing.T, w *walk.Walker, s string) {
	t.Helper()
	if got := w.Save(); got != s {
		t.Errorf("Save: %q instead of %q", got, s)
	}
}

func wantPart(t *testing.T, w *walk.Walker, r api.Rat) {
	t.Helper()
	if got, some := w.Part(); !alikeRat(got, r) || !some {
		t.Errorf("Part: %v, %v, instead of %v", got, some, value(r))
	}
}

func wantNoPart(t *testing.T, w *walk.Walker) {
	t.Helper()
	if got, some := w.Part(); !isZero(got.Num) || !isZero(got.Den) || some {
		t.Errorf("Part of none: %v, %v", got, some)
	}
}

func wantRun(t *testing.T, tr api.Tree, root []api.Int, most int, all bool, nodes ...[]api.Int) {
	t.Helper()
	got, is, e := walk.Run(tr, root, most)
	if !alikeRows(got, nodes) || is != all || e != api.OK {
		t.Errorf("Run of %v, %d: %v, %v, error %d, instead of %v, %v", told(root), most, told(got...), is, e, told(nodes...), all)
	}
}

// squareNodes are the nodes of the plain square lattice up to 1.
func squareNodes() [][]api.Int {
	return rows(vec(0), vec(0, 0), vec(0, 1), vec(0, -1), vec(1), vec(1, 0), vec(-1), vec(-1, 0))
}

func TestExampleOfBehind(t *testing.T) {
	for _, c := range []struct {
		c    api.Rat
		x, y int64
	}{{q(1, 2), 1, 0}, {q(1, 2), 0, 2}, {q(0, 1), 0, 1}, {q(0, 1), 1, -1}, {q(0, 1), -1, 2}} {
		if y, e := walk.Behind(c.c, small(c.x)); !alike(y, small(c.y)) || e != api.OK {
			t.Errorf("Behind(%v, %d): %v, error %d, instead of %d", value(c.c), c.x, whole(y), e, c.y)
		}
	}
}

func TestExampleOfNext(t *testing.T) {
	w := made(t, square(t), nil)
	wantNext(t, w, vec(0), vec(0, 0), vec(0, 1))
	wantErr(t, "Shrink", w.Shrink(q(1, 2)), api.OK)
	wantEnd(t, w)
	w = made(t, square(t), nil)
	wantNext(t, w, vec(0))
	wantErr(t, "Skip", w.Skip(), api.OK)
	wantNext(t, w, vec(1), vec(1, 0), vec(-1), vec(-1, 0))
	wantEnd(t, w)
}

func TestExampleOfSave(t *testing.T) {
	w := made(t, square(t), nil)
	wantSave(t, w, "walk new 0 1 0 0")
	wantNext(t, w, vec(0), vec(0, 0))
	wantSave(t, w, "walk on 2 1 0 2 0 0")
}

func TestTheSquareWhole(t *testing.T) {
	w := made(t, square(t), nil)
	wantNext(t, w, squareNodes()...)
	wantEnd(t, w)
	wantSave(t, w, "walk end 8 1 0 0")
	for most := range 11 {
		wantRun(t, square(t), nil, most, most >= 8, squareNodes()[:min(most, 8)]...)
	}
}

func TestTheSquareFromARoot(t *testing.T) {
	for _, c := range []struct {
		root  []api.Int
		nodes [][]api.Int
		save  string
	}{
		{vec(0), squareNodes()[:4], "walk end 4 1 1 0 0"},
		{vec(1), squareNodes()[4:6], "walk end 2 1 1 1 0"},
		{vec(-1), squareNodes()[6:], "walk end 2 1 1 -1 0"},
		{vec(0, -1), squareNodes()[3:4], "walk end 1 1 2 0 -1 0"},
		{vec(2), nil, "walk end 0 1 1 2 0"},
		{vec(1, 1), nil, "walk end 0 1 2 1 1 0"},
		{vec(2, 0), nil, "walk end 0 1 2 2 0 0"},
	} {
		w := made(t, square(t), c.root)
		wantNext(t, w, c.nodes...)
		wantEnd(t, w)
		wantSave(t, w, c.save)
		wantRun(t, square(t), c.root, 9, true, c.nodes...)
	}
}

// TestASlantedLattice: (1, 1) and (0, 2), about 1/3 and -1/2, up to 2.
func TestASlantedLattice(t *testing.T) {
	w := made(t, treeOf(t, q(4, 2), []api.Rat{q(1, 3), q(-1, 2)}, vec(1, 1), vec(0, 2)), nil)
	wantSave(t, w, "walk new 0 2 0 0")
	wantNoPart(t, w)
	for _, c := range []struct {
		node []api.Int
		part api.Rat
		save string
	}{
		{vec(0), q(1, 2), "walk on 1 2 0 1 0"},
		{vec(0, 0), q(5, 9), "walk on 2 2 0 2 0 0"},
		{vec(0, -1), q(17, 9), "walk on 3 2 0 2 0 -1"},
		{vec(-1), q(1, 2), "walk on 4 2 0 1 -1"},
		{vec(-1, 1), q(5, 9), "walk on 5 2 0 2 -1 1"},
		{vec(-1, 0), q(17, 9), "walk on 6 2 0 2 -1 0"},
	} {
		wantNext(t, w, c.node)
		wantPart(t, w, c.part)
		wantSave(t, w, c.save)
		if b := w.Bound(); !alikeRat(b, q(2, 1)) {
			t.Errorf("Bound: %v", b)
		}
	}
	wantErr(t, "Skip", w.Skip(), api.OK)
	wantSave(t, w, "walk skip 6 2 0 2 -1 0")
	wantErr(t, "Shrink", w.Shrink(q(2, 6)), api.OK)
	wantPart(t, w, q(17, 9))
	wantSave(t, w, "walk skip 6 1/3 0 2 -1 0")
	wantEnd(t, w)
	wantNoPart(t, w)
	wantErr(t, "Shrink at the end", w.Shrink(q(0, 7)), api.OK)
	wantSave(t, w, "walk end 6 0 0 0")
	if n := w.Told(); n != 6 {
		t.Errorf("Told: %d", n)
	}
}

// TestNumbersOfErrors: the numbers by which callers know the errors.
func TestNumbersOfErrors(t *testing.T) {
	_, isTree := walk.New(api.Tree{}, nil)
	_, isArg := walk.New(square(t), vec(1, 2, 3))
	_, at, isForm := walk.Load(square(t), "walk go")
	_, _, isLong := walk.Load(square(t), string(make([]byte, 1<<16+1)))
	_, isRat := walk.Behind(api.Rat{}, small(0))
	isState, isZero := made(t, square(t), nil).Skip(), (*walk.Walker)(nil).Skip()
	for i, e := range []api.Errno{isTree, isArg, isForm, isLong, isRat, isState, isZero} {
		if n := []int{110, 1, 4, 2, 30, 5, 7}[i]; int(e) != n {
			t.Errorf("error %d instead of %d", e, n)
		}
	}
	if at != 5 {
		t.Errorf("the fault is at %d", at)
	}
}
