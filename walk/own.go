package walk

import (
	"trammel/api"
	"trammel/rat"
	"trammel/zint"
)

// ownTree is a tree that may be, in memory of its own.
func ownTree(t api.Tree) api.Tree {
	out := api.Tree{G: api.Gso{D: renewed(t.G.D)}, R: lowest(t.R)}
	for _, row := range t.G.L {
		out.G.L = append(out.G.L, renewed(row))
	}
	for _, r := range t.T {
		out.T = append(out.T, lowest(r))
	}
	return out
}

func renewed(l []api.Int) []api.Int {
	out := make([]api.Int, len(l))
	for i, x := range l {
		out[i] = zint.Form(x)
	}
	return out
}

// lowest is a rational that may be, in lowest terms and in memory of its own.
func lowest(r api.Rat) api.Rat {
	out, _ := rat.Make(r.Num, r.Den)
	return out
}

// within tells if r is at most the bound; both may be.
func within(r, bound api.Rat) bool {
	order, _ := rat.Cmp(r, bound)
	return order <= 0
}
