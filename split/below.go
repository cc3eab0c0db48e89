package split

import (
	"trammel/api"
	"trammel/tree"
)

// Below: the nodes that a job stands for, in the order of the tree, the first most of them, and if these are all; ErrTree; ErrArg, if the job's root has more numbers than there are rows, or most is not 0 to MaxNodes.
func Below(t api.Tree, j api.Job, most int) ([][]api.Int, bool, api.Errno) {
	switch e := tree.Valid(t); {
	case e != api.OK:
		return nil, false, e
	case len(j.Root) > len(t.G.L) || most < 0 || most > api.MaxNodes:
		return nil, false, api.ErrArg
	}
	if there, _ := tree.In(t, j.Root); !there {
		return nil, true, api.OK
	}
	out, all := from(t, and(j.Root), most)
	return out, all, api.OK
}

// from is a node, or the empty suffix, which is none, and the nodes below it, the first most of them, and if these are all. It keeps s.
func from(t api.Tree, s []api.Int, most int) ([][]api.Int, bool) {
	out := [][]api.Int{}
	if len(s) > 0 {
		if most == 0 {
			return nil, false
		}
		out = append(out, s)
	}
	if len(s) == len(t.G.L) {
		return out, true
	}
	kids, all, _ := tree.Kids(t, s, most-len(out))
	for _, x := range kids {
		more, whole := from(t, and(s, x), most-len(out))
		out = append(out, more...)
		if !whole {
			return out, false
		}
	}
	return out, all
}
