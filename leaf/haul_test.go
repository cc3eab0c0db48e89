package leaf_test

import (
	"testing"

	"trammel/api"
	"trammel/leaf"
	"trammel/mat"
)

func found(n api.Rat, x ...int) api.Found { return api.Found{X: vec(x...), N: n} }

// wantHaul holds what is kept, as one text, and the bound.
func wantHaul(t *testing.T, h leaf.Haul, all, bound string) {
	t.Helper()
	got := ""
	for _, f := range h.InOrder() {
		got += mat.TextVector(f.X) + ": " + text(f.N) + "; "
	}
	if got != all || text(h.Bound()) != bound {
		t.Errorf("%q instead of %q, the bound %s instead of %s", got, all, text(h.Bound()), bound)
	}
}

func TestOffersAreHeldAgainstTheBound(t *testing.T) {
	h := leaf.Below(by(3, 2))
	wantHaul(t, h, "", "3/2")
	h.Offer(found(by(2, 1), 1))
	wantHaul(t, h, "", "3/2")
	h.Offer(found(by(6, 4), 5))
	wantHaul(t, h, "5: 3/2; ", "3/2")
	h.Offer(found(by(3, 2), -5))
	wantHaul(t, h, "-5: 3/2; 5: 3/2; ", "3/2")
	h.Offer(found(by(1, 2), 7))
	wantHaul(t, h, "7: 1/2; ", "1/2")
	h.Offer(found(by(3, 2), -5))
	wantHaul(t, h, "7: 1/2; ", "1/2")
	h.Offer(found(by(1, 2), 2))
	h.Offer(found(by(0, 1), 0))
	wantHaul(t, h, "0: 0; ", "0")
}

func TestWhatIsKeptIsToldInOrder(t *testing.T) {
	h := leaf.Below(by(1, 1))
	for _, f := range []api.Found{found(by(2, 1), 1, 1), found(by(1, 3), 4, 0), found(by(2, 1), 1, -1), found(by(1, 2), 9, 9), found(by(2, 1), 0, 8)} {
		h.Keep(f)
	}
	wantHaul(t, h, "4 0: 1/3; 9 9: 1/2; 0 8: 2; 1 -1: 2; 1 1: 2; ", "1")
}

// TestNoMoreIsKeptThanIsTold, but for one more by which one sees that it was too much.
func TestNoMoreIsKeptThanIsTold(t *testing.T) {
	kept, offered := leaf.Below(by(1, 1)), leaf.Below(by(1, 1))
	for i := range api.MaxNodes + 10 {
		kept.Keep(found(by(2, 1), i))
		offered.Offer(found(by(1, 1), i))
		if want := min(i+1, api.MaxNodes+1); i > api.MaxNodes-3 && (len(kept.InOrder()) != want || len(offered.InOrder()) != want) {
			t.Errorf("%d and %d of %d", len(kept.InOrder()), len(offered.InOrder()), i+1)
		}
	}
	offered.Offer(found(by(1, 2), 3))
	wantHaul(t, offered, "3: 1/2; ", "1/2")
}
