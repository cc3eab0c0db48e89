package tree

import (
	"iter"

	"trammel/aim"
	"trammel/api"
	"trammel/zint"
)

// Kids: the numbers of a suffix's children that are nodes, in zig-zag order, the first most of them, and if these are all; ErrTree; ErrArg, if s has not fewer numbers than there are rows, or most is not 0 to MaxNodes.
func Kids(t api.Tree, s []api.Int, most int) ([]api.Int, bool, api.Errno) {
	if e := refusedList(t, s, most); e != api.OK {
		return nil, false, e
	}
	out := []api.Int{}
	for x := range kids(spot(t, s), t.R) {
		if len(out) == most {
			return out, false, api.OK
		}
		out = append(out, x)
	}
	return out, true, api.OK
}

// Nodes: the nodes in the order of the tree, the first most of them, and if these are all; ErrTree; ErrArg, if most is not 0 to MaxNodes.
func Nodes(t api.Tree, most int) ([][]api.Int, bool, api.Errno) {
	if e := refusedList(t, nil, most); e != api.OK {
		return nil, false, e
	}
	out := [][]api.Int{}
	for node := range nodes(t) {
		if len(out) == most {
			return out, false, api.OK
		}
		out = append(out, renewed(node))
	}
	return out, true, api.OK
}

// Count: how many of the first most nodes have 1 number, 2 numbers, and so on, and if these nodes are all; ErrTree; ErrArg, if most is not 0 to MaxNodes.
func Count(t api.Tree, most int) ([]int, bool, api.Errno) {
	if e := refusedList(t, nil, most); e != api.OK {
		return nil, false, e
	}
	out, many := make([]int, len(t.G.L)), 0
	for node := range nodes(t) {
		if many == most {
			return out, false, api.OK
		}
		out[len(node)-1]++
		many++
	}
	return out, true, api.OK
}

// refusedList looks at what a list of nodes below a suffix is asked for with.
func refusedList(t api.Tree, s []api.Int, most int) api.Errno {
	e := refused(t, s, 1)
	if e == api.OK && (most < 0 || most > api.MaxNodes) {
		return api.ErrArg
	}
	return e
}

// nodes tells all nodes, in the order of the tree. Nodes share their numbers with others.
func nodes(t api.Tree) iter.Seq[[]api.Int] {
	return below(spot(t, nil), nil, t.R)
}

// below tells the nodes below the suffix s, whose spot is at, and which is not of all rows.
func below(at aim.Spot, s []api.Int, r api.Rat) iter.Seq[[]api.Int] {
	return func(yield func(node []api.Int) bool) {
	all:
		for x := range kids(at, r) {
			node := append(s[:len(s):len(s)], x)
			if !yield(node) {
				break all
			}
			if at.Left() == 1 {
				continue
			}
			for deeper := range below(at.Child(x), node, r) {
				if !yield(deeper) {
					break all
				}
			}
		}
	}
}

// kids tells the numbers of the children that are nodes, in zig-zag order.
func kids(at aim.Spot, r api.Rat) iter.Seq[api.Int] {
	return func(yield func(x api.Int) bool) {
		least, greatest, some := at.Within(r)
		if !some {
			return
		}
		z := zigzagAbout(at.Centre())
		for k := 0; ; k++ {
			x := z.at(k)
			// The children lie evenly about the centre: behind the first number beside them there is none any more.
			if zint.Compare(x, least) < 0 || zint.Compare(x, greatest) > 0 || !yield(x) {
				return
			}
		}
	}
}

func renewed(s []api.Int) []api.Int {
	out := make([]api.Int, len(s))
	for i, x := range s {
		out[i] = zint.Form(x)
	}
	return out
}
