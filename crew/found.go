package crew

import (
	"trammel/api"
	"trammel/leaf"
	"trammel/walk"
)

// Found: the leaves of the least part, but that of noughts alone, unless noughts are let, by the order of their coefficients; ErrTree; ErrLong, if the tree has more than MaxNodes nodes.
func Found(t api.Tree, nought bool) ([]api.Found, api.Errno) {
	w, e := walk.New(t, nil)
	if e != api.OK {
		return nil, e
	}
	// The walker's bound does not shrink: all nodes are to be counted.
	best := leaf.Below(t.R)
	for node, some := w.Next(); some; node, some = w.Next() {
		if w.Told() > api.MaxNodes {
			return nil, api.ErrLong
		}
		if leaf.Counts(t, node, nought) {
			part, _ := w.Part()
			best.Offer(leaf.Found(node, part))
		}
	}
	return best.InOrder(), api.OK
}
