package tree_test

import (
	"math/big"
	"math/rand"
	"testing"

	"trammel/api"
	"trammel/gso"
	"trammel/tree"
)

// TR1, held against the chapter's words.

func TestValid(t *testing.T) {
	for _, tr := range trees(1) {
		wantErr(t, "Valid", tree.Valid(tr), api.OK)
	}
	for _, tr := range unfitTrees() {
		if e := tree.Valid(tr); e != api.ErrTree {
			t.Errorf("Valid of %v: error %d", tr, e)
		}
	}
}

// everySuffix calls f with many trees and suffixes of theirs, some near the target, some far off.
func everySuffix(seed int64, f func(tr api.Tree, m model, s []api.Int)) {
	r := rand.New(rand.NewSource(seed))
	everyTree(seed, func(tr api.Tree, m model) {
		for _, s := range ways(r, m) {
			f(tr, m, s)
		}
		for _, s := range suffixes(r, min(m.n, 4)) {
			f(tr, m, s)
		}
	})
}

func TestPart(t *testing.T) {
	everySuffix(10, func(tr api.Tree, m model, s []api.Int) {
		p, e := tree.Part(tr, s)
		want(t, "Part", p, e, m.part(s))
		if k := len(s) - 1; k >= 0 {
			want(t, "Part of a child", p, e, m.child(s[:k])(whole(s[k])))
		}
	})
}

func TestCentre(t *testing.T) {
	everySuffix(20, func(tr api.Tree, m model, s []api.Int) {
		if len(s) < m.n {
			c, e := tree.Centre(tr, s)
			want(t, "Centre", c, e, m.centre(s))
		}
	})
}

func TestIn(t *testing.T) {
	yes, no := 0, 0
	everySuffix(30, func(tr api.Tree, m model, s []api.Int) {
		part := m.part(s)
		// The bound is just the part, a little above it, a little below.
		little := new(big.Rat).SetFrac(big.NewInt(1), whole(power(200)))
		for _, r := range []bigRat{m.r, part, plus(part, little), minus(part, little)} {
			if r.Sign() < 0 {
				continue
			}
			tr.R = terms(r)
			is, e := tree.In(tr, s)
			if is != (len(s) == 0 || part.Cmp(r) <= 0) || e != api.OK {
				t.Errorf("In of the part %v by %v: %v, error %d", part, r, is, e)
			}
			if is {
				yes++
			} else {
				no++
			}
		}
	})
	if yes < 1000 || no < 1000 {
		t.Errorf("%d nodes and %d others are few", yes, no)
	}
}

// TestLongNumbers: exact numbers, however great.
func TestLongNumbers(t *testing.T) {
	r := rand.New(rand.NewSource(35))
	for _, n := range []int{3, 12} {
		g, e := gso.Of(drawBasis(r, n, long(8)))
		wantErr(t, "Of", e, api.OK)
		s := drawVector(r, n, long(8))
		tr := api.Tree{G: g, T: targets(r, n)[5], R: q(1, 1)}
		m := modelOf(tr)
		p, e := tree.Part(tr, s)
		want(t, "Part", p, e, m.part(s))
		c, e := tree.Centre(tr, s[:n-1])
		want(t, "Centre", c, e, m.centre(s[:n-1]))
		tr.R = p
		wantIn(t, tr, s, true)
		tr.R = terms(minus(m.part(s), big.NewRat(1, 1)))
		wantIn(t, tr, s, false)
	}
}

// centres are some: whole, halves, a little beside both, long.
func centres(r *rand.Rand) []api.Rat {
	out := []api.Rat{q(0, 1), q(0, 9), {Num: num(true, 0), Den: num(false, 3, 0)}, q(6, 3), q(-4, 2), q(6, 4), q(-3, 6), q(-7, 2)}
	little := new(big.Rat).SetFrac(big.NewInt(1), whole(power(100)))
	for _, c := range out[:8] {
		out = append(out, terms(plus(value(c), little)), terms(minus(value(c), little)))
	}
	for range 40 {
		out = append(out, q(int64(r.Intn(200)-100), int64(r.Intn(9)+1)), api.Rat{Num: draw(r, 4), Den: above(r, 3)})
	}
	return append(out, api.Rat{Num: power(500), Den: small(1)}, api.Rat{Num: power(500), Den: small(3)})
}

func TestNth(t *testing.T) {
	for _, c := range centres(rand.New(rand.NewSource(40))) {
		for k, n := range about(value(c), 12) {
			wantNth(t, c, k, n)
		}
	}
}

// place is how many numbers come ahead of n in zig-zag order about c.
func place(c bigRat, n bigInt) bigInt {
	off := minus(new(big.Rat).SetInt(n), c)
	off.Abs(off)
	// From the least to the greatest number that is at most as far off; the farther ones of these at both ends are n, and perhaps one that is as far.
	least, greatest := floor(minus(off, c)), floor(plus(c, off))
	many := new(big.Int).Add(least, greatest)
	if n.Cmp(greatest) == 0 && plus(c, off).IsInt() && minus(off, c).IsInt() && off.Sign() > 0 {
		return many.Sub(many, big.NewInt(1))
	}
	return many
}

func TestNthFarOff(t *testing.T) {
	r := rand.New(rand.NewSource(41))
	for _, c := range centres(r) {
		for _, k := range []int{0, 1, 2, 3, 1000, 1<<16 - 1, 1 << 16, 1<<30 - 1, 1 << 30, r.Intn(1 << 30)} {
			n, e := tree.Nth(c, k)
			at := place(value(c), whole(n))
			if e != api.OK || at.Cmp(big.NewInt(int64(k))) != 0 || !alike(n, form(whole(n))) {
				t.Errorf("Nth(%v, %d): %v, error %d, which stands at %v", value(c), k, whole(n), e, at)
			}
		}
	}
}
