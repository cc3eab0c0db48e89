package walk_test

import (
	"math"
	"math/rand"
	"strings"
	"testing"

	"trammel/api"
	"trammel/walk"
)

// The errors, in their order; beside one all else is zero.

func refuseNew(t *testing.T, tr api.Tree, root []api.Int, by api.Errno) {
	t.Helper()
	if w, e := walk.New(tr, root); w != nil || e != by {
		t.Errorf("New: %v, error %d, instead of error %d", w, e, by)
	}
}

func refuseRun(t *testing.T, tr api.Tree, root []api.Int, most int, by api.Errno) {
	t.Helper()
	if l, all, e := walk.Run(tr, root, most); len(l) != 0 || all || e != by {
		t.Errorf("Run: %v, %v, error %d, instead of error %d", told(l...), all, e, by)
	}
}

func refuseLoad(t *testing.T, tr api.Tree, s string, by api.Errno) {
	t.Helper()
	if w, at, e := walk.Load(tr, s); w != nil || at != 0 || e != by {
		t.Errorf("Load: %v, %d, error %d, instead of error %d", w, at, e, by)
	}
}

// wrongMost are how many nobody may ask for.
func wrongMost() []int {
	return []int{-1, api.MaxNodes + 1, -api.MaxNodes, math.MinInt, math.MaxInt, 1 << 32, -1 << 32}
}

func TestErrTreeIsTheFirst(t *testing.T) {
	for _, tr := range unfitTrees() {
		for _, root := range [][]api.Int{nil, vec(1), vec(1, 2, 3), make([]api.Int, 30)} {
			refuseNew(t, tr, root, api.ErrTree)
			for _, most := range append(wrongMost(), 0, 5) {
				refuseRun(t, tr, root, most, api.ErrTree)
			}
		}
		for _, s := range []string{"", "walk new 0 1 0 0", "walk", "x", strings.Repeat("x", api.MaxSave+1)} {
			refuseLoad(t, tr, s, api.ErrTree)
		}
	}
}

func TestErrArg(t *testing.T) {
	r := rand.New(rand.NewSource(50))
	for _, tr := range trees(51) {
		n := len(tr.G.L)
		for _, m := range []int{n + 1, n + 2, 300} {
			refuseNew(t, tr, drawVector(r, m, digit), api.ErrArg)
			for _, most := range []int{0, 5, -1} {
				refuseRun(t, tr, drawVector(r, m, digit), most, api.ErrArg)
			}
		}
		for _, most := range wrongMost() {
			for m := range n + 1 {
				refuseRun(t, tr, make([]api.Int, m), most, api.ErrArg)
			}
		}
		made(t, tr, drawVector(r, n, digit))
	}
}

// noWalkers are such as no call made.
func noWalkers() []*walk.Walker {
	return []*walk.Walker{nil, {}, new(walk.Walker)}
}

func TestAWalkerThatNoCallMade(t *testing.T) {
	for _, w := range noWalkers() {
		for range 2 {
			wantEnd(t, w)
			wantNoPart(t, w)
			wantSave(t, w, "")
			if b := w.Bound(); !isZero(b.Num) || !isZero(b.Den) {
				t.Errorf("Bound: %v", b)
			}
			if w.Told() != 0 || w.Fork() != nil {
				t.Errorf("Told: %d, Fork: %v", w.Told(), w.Fork())
			}
			wantErr(t, "Skip", w.Skip(), api.ErrZero)
			for _, r := range append(unfitRats(), q(-1, 1), q(0, 1), q(1, 1)) {
				wantErr(t, "Shrink", w.Shrink(r), api.ErrZero)
			}
		}
	}
}

// states are a walker's, each with its text.
func states(t *testing.T) map[string]*walk.Walker {
	t.Helper()
	out := map[string]*walk.Walker{}
	for _, s := range []string{"walk new 0 1/2 0 0", "walk on 4 1/2 1 1 1 1", "walk skip 4 1/2 0 2 0 1", "walk end 4 1/2 0 0"} {
		out[s] = loaded(t, square(t), s)
	}
	return out
}

// TestShrinkRefuses: beside an error nothing has changed.
func TestShrinkRefuses(t *testing.T) {
	for s, w := range states(t) {
		for _, r := range unfitRats() {
			wantErr(t, "Shrink", w.Shrink(r), api.ErrRat)
			wantSave(t, w, s)
		}
		for _, r := range []api.Rat{q(1, 1), q(2, 3), q(-1, 2), q(-1, 1000000), terms(plus(value(q(1, 2)), little())), {Num: power(300), Den: power(2)}} {
			wantErr(t, "Shrink", w.Shrink(r), api.ErrArg)
			wantSave(t, w, s)
		}
		wantErr(t, "Shrink", w.Shrink(q(2, 4)), api.OK)
		wantSave(t, w, s)
		wantErr(t, "Shrink", w.Shrink(api.Rat{Num: num(true, 0), Den: num(false, 9, 0)}), api.OK)
		wantSave(t, w, strings.Replace(s, "1/2", "0", 1))
		wantErr(t, "Shrink", w.Shrink(q(1, 2)), api.ErrArg)
		wantErr(t, "Shrink", w.Shrink(q(0, 1)), api.OK)
	}
}

// TestSkipRefuses where no node was told, and at the end.
func TestSkipRefuses(t *testing.T) {
	for s, w := range states(t) {
		if strings.HasPrefix(s, "walk new") || strings.HasPrefix(s, "walk end") {
			wantErr(t, "Skip", w.Skip(), api.ErrState)
			wantSave(t, w, s)
			continue
		}
		for range 2 {
			wantErr(t, "Skip", w.Skip(), api.OK)
			wantSave(t, w, strings.Replace(s, " on ", " skip ", 1))
		}
	}
}

// TestATreeWithoutANode: a walker through it is at its end when it is asked, not before.
func TestATreeWithoutANode(t *testing.T) {
	tr := treeOf(t, q(1, 9), []api.Rat{q(1, 2)}, vec(1))
	w := made(t, tr, nil)
	wantSave(t, w, "walk new 0 1/9 0 0")
	wantErr(t, "Skip", w.Skip(), api.ErrState)
	wantEnd(t, w)
	wantSave(t, w, "walk end 0 1/9 0 0")
	wantErr(t, "Skip", w.Skip(), api.ErrState)
	wantSave(t, loaded(t, tr, w.Save()), "walk end 0 1/9 0 0")
	wantRun(t, tr, nil, 0, true)
}
