package crew

import (
	"slices"

	"trammel/api"
	"trammel/rat"
	"trammel/walk"
	"trammel/zint"
)

// Found: the leaves of the least part, but that of noughts alone, unless noughts are let, by the order of their coefficients; ErrTree; ErrLong, if the tree has more than MaxNodes nodes.
func Found(t api.Tree, nought bool) ([]api.Found, api.Errno) {
	w, e := walk.New(t, nil)
	if e != api.OK {
		return nil, e
	}
	// The walker's bound does not shrink: all nodes are to be counted.
	least := best{bound: t.R}
	for node, some := w.Next(); some; node, some = w.Next() {
		if w.Told() > api.MaxNodes {
			return nil, api.ErrLong
		}
		if counts(t, node, nought) {
			part, _ := w.Part()
			least.offer(node, part)
		}
	}
	return least.inOrder(), api.OK
}

// counts tells if a node is a leaf that counts for the search.
func counts(t api.Tree, node []api.Int, nought bool) bool {
	return len(node) == len(t.G.L) && (nought || slices.ContainsFunc(node, isSome))
}

func isSome(x api.Int) bool {
	return zint.Sign(x) != 0
}

// best are the leaves of the least part of all that were offered.
type best struct {
	bound api.Rat // that part; ahead of any the tree's bound, above which none is
	found []api.Found
}

// offer takes a leaf, unless it is worse than those that are there, and keeps neither list nor part.
func (b *best) offer(leaf []api.Int, part api.Rat) {
	order, _ := rat.Cmp(part, b.bound)
	switch {
	case order < 0:
		b.found, b.bound = nil, lowest(part)
		fallthrough
	case order == 0:
		b.found = append(b.found, api.Found{X: byRows(leaf), N: lowest(part)})
	}
}

// inOrder hands all of them on, by the order of their coefficients.
func (b *best) inOrder() []api.Found {
	slices.SortFunc(b.found, func(x, y api.Found) int {
		return slices.CompareFunc(x.X, y.X, zint.Compare)
	})
	return b.found
}

// byRows is a leaf's coefficients, the first row's first.
func byRows(leaf []api.Int) []api.Int {
	out := renewed(leaf)
	slices.Reverse(out)
	return out
}

// lowest is a rational that may be, in lowest terms and in memory of its own.
func lowest(r api.Rat) api.Rat {
	out, _ := rat.Make(r.Num, r.Den)
	return out
}
