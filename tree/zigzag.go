package tree

import (
	"trammel/api"
	"trammel/rat"
	"trammel/scale"
	"trammel/zint"
)

const lastPlace = 1 << 30

// Nth: the number at the place k in zig-zag order about c; ErrRat, if c may not be; ErrArg, if k is not 0 to 2^30.
func Nth(c api.Rat, k int) (api.Int, api.Errno) {
	switch {
	case !scale.MayBe([]api.Rat{c}):
		return api.Int{}, api.ErrRat
	case k < 0 || k > lastPlace:
		return api.Int{}, api.ErrArg
	}
	return zigzagAbout(c).at(k), api.OK
}

// zigzag is the numbers about a centre, the nearer ones first.
type zigzag struct {
	near api.Int
	up   bool // the number behind near is above it
}

// zigzagAbout takes a centre that may be.
func zigzagAbout(c api.Rat) zigzag {
	near, _ := rat.Near(c)
	// About a centre that is whole both sides are as near, and the greater number comes first.
	order, _ := rat.Cmp(c, rat.Of(near))
	return zigzag{near: near, up: order >= 0}
}

// at is the number at the place k, from 0 on.
func (z zigzag) at(k int) api.Int {
	off := zint.Of(int64(k/2 + k%2))
	if odd := k%2 == 1; odd == z.up {
		return zint.Add(z.near, off)
	}
	return zint.Sub(z.near, off)
}
