// Package scale brings rationals over one denominator, so that one may go on with whole numbers.
package scale

import (
	"trammel/api"
	"trammel/zint"
)

// MayBe tells if every denominator is above 0.
func MayBe(t []api.Rat) bool {
	for _, r := range t {
		if zint.Sign(r.Den) <= 0 {
			return false
		}
	}
	return true
}

// Whole is t as whole numbers by one denominator: the least above 0 that all of theirs divide. The rationals may be.
func Whole(t []api.Rat) ([]api.Int, api.Int) {
	den := common(t)
	out := make([]api.Int, len(t))
	for i, r := range t {
		times, _ := zint.Exact(den, r.Den)
		out[i] = zint.Mul(r.Num, times)
	}
	return out, den
}

// common is the least number above 0 that all denominators divide.
func common(t []api.Rat) api.Int {
	m := zint.Of(1)
	for _, r := range t {
		more, _ := zint.Exact(r.Den, zint.Gcd(m, r.Den))
		m = zint.Mul(m, more)
	}
	return m
}
