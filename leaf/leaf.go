// Package leaf is no layer, but what crew and pool share: which leaves of a tree count, as what they are found, and those that a search keeps.
package leaf

import (
	"slices"

	"trammel/api"
	"trammel/rat"
	"trammel/zint"
)

// Is tells if a node of a tree is a leaf.
func Is(t api.Tree, node []api.Int) bool {
	return len(node) == len(t.G.L)
}

// Counts tells if a node of a tree is a leaf that counts for a search: one of noughts alone does only if noughts are let.
func Counts(t api.Tree, node []api.Int, nought bool) bool {
	return Is(t, node) && (nought || slices.ContainsFunc(node, isSome))
}

func isSome(x api.Int) bool {
	return zint.Sign(x) != 0
}

// Found is a leaf as it is told, its coefficients by rows, in memory of its own. Its part may be.
func Found(leaf []api.Int, part api.Rat) api.Found {
	out := api.Found{X: make([]api.Int, len(leaf))}
	for i, x := range leaf {
		out.X[len(leaf)-1-i] = zint.Form(x)
	}
	out.N, _ = rat.Make(part.Num, part.Den)
	return out
}

// Order: -1, 0 or 1, as a is below b, the same, or above, number by number; where one ends first that one is below.
func Order(a, b []api.Int) int {
	return slices.CompareFunc(a, b, zint.Compare)
}
