package walk

import (
	"trammel/api"
	"trammel/scale"
	"trammel/zint"
)

// Behind: the number behind x in zig-zag order about c; ErrRat, if c may not be.
func Behind(c api.Rat, x api.Int) (api.Int, api.Errno) {
	if !scale.MayBe([]api.Rat{c}) {
		return api.Int{}, api.ErrRat
	}
	return behind(c, x), api.OK
}

// behind takes a centre that may be.
func behind(c api.Rat, x api.Int) api.Int {
	scaled := zint.Mul(x, c.Den)
	off := zint.Sub(c.Num, scaled)
	// As far off on the other side is 2 c - x.
	other, _, _ := zint.Floor(zint.Add(c.Num, off), c.Den)
	if zint.Sign(off) < 0 {
		return other
	}
	return zint.Add(other, zint.Of(1))
}
