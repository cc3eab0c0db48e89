package rat

import (
	"trammel/api"
	"trammel/zint"
)

// Add: the sum.
func Add(a, b api.Rat) (api.Rat, api.Errno) {
	return sum(a, b)
}

// Sub: the difference.
func Sub(a, b api.Rat) (api.Rat, api.Errno) {
	return sum(a, minus(b))
}

// Mul: the product.
func Mul(a, b api.Rat) (api.Rat, api.Errno) {
	if !mayBe(a, b) {
		return api.Rat{}, api.ErrRat
	}
	return lowest(zint.Mul(a.Num, b.Num), zint.Mul(a.Den, b.Den)), api.OK
}

// Div: the quotient; ErrDiv, if b is 0.
func Div(a, b api.Rat) (api.Rat, api.Errno) {
	if !mayBe(a, b) {
		return api.Rat{}, api.ErrRat
	}
	// The product below has the sign of b: Make refuses 0, and turns what is below it.
	return Make(zint.Mul(a.Num, b.Den), zint.Mul(a.Den, b.Num))
}

// Cmp: -1, 0 or 1, as a is below b, the same, above.
func Cmp(a, b api.Rat) (int, api.Errno) {
	if !mayBe(a, b) {
		return 0, api.ErrRat
	}
	return zint.Compare(zint.Mul(a.Num, b.Den), zint.Mul(b.Num, a.Den)), api.OK
}

// minus is the rational with the other sign.
func minus(r api.Rat) api.Rat {
	return api.Rat{Num: zint.Neg(r.Num), Den: r.Den}
}

// sum is the sum of a list that is not empty. What is summed so far stays as it comes, and is brought into lowest terms once, at the end.
func sum(l ...api.Rat) (api.Rat, api.Errno) {
	if !mayBe(l...) {
		return api.Rat{}, api.ErrRat
	}
	num, den := l[0].Num, l[0].Den
	fold(l[1:], func(r api.Rat) {
		num = zint.Add(zint.Mul(num, r.Den), zint.Mul(r.Num, den))
		den = zint.Mul(den, r.Den)
	})
	return lowest(num, den), api.OK
}

// fold hands the rationals of a list, one after the other, to a closure that keeps what comes of them.
func fold(l []api.Rat, take func(r api.Rat)) {
	for _, r := range l {
		take(r)
	}
}
