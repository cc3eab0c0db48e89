package leaf

import (
	"cmp"
	"slices"

	"trammel/api"
	"trammel/rat"
)

// Haul is the leaves that a search keeps, and the bound above which none is worth an offer. It keeps what it is handed, and of more than MaxNodes leaves just one more than these: such a list is told by nobody.
type Haul struct {
	bound api.Rat
	kept  []api.Found
}

// Below is a haul without a leaf. The bound may be.
func Below(bound api.Rat) Haul {
	return Haul{bound: bound}
}

// Bound is what an offered leaf may have as its part at most.
func (h *Haul) Bound() api.Rat {
	return h.bound
}

// Keep keeps a leaf, whatever its part.
func (h *Haul) Keep(l api.Found) {
	if len(h.kept) <= api.MaxNodes {
		h.kept = append(h.kept, l)
	}
}

// Offer keeps a leaf, unless it is above the bound. If it is below, it takes the place of all that were kept, and its part is the bound.
func (h *Haul) Offer(l api.Found) {
	order, _ := rat.Cmp(l.N, h.bound)
	if order < 0 {
		h.kept, h.bound = nil, l.N
	}
	if order <= 0 {
		h.Keep(l)
	}
}

// InOrder hands on all that were kept, by rising parts, of one part by the order of their coefficients.
func (h *Haul) InOrder() []api.Found {
	slices.SortFunc(h.kept, func(a, b api.Found) int {
		order, _ := rat.Cmp(a.N, b.N)
		return cmp.Or(order, Order(a.X, b.X))
	})
	return h.kept
}
