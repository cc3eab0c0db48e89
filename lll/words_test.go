package lll_test

import (
	"math/big"

	"trammel/api"
)

// The words of the chapter, in the library's rationals: b*, mu and Star are worked out anew from the rows wherever they are asked for.

// dot is the dot product of two lists of rationals.
func dot(u, v []bigRat) bigRat {
	sum := new(big.Rat)
	for i := range u {
		sum.Add(sum, new(big.Rat).Mul(u[i], v[i]))
	}
	return sum
}

func rationals(row []bigInt) []bigRat {
	out := []bigRat{}
	for _, n := range row {
		out = append(out, new(big.Rat).SetInt(n))
	}
	return out
}

// muOf is the dot product of v and a b* by that of b* with itself.
func muOf(v, star []bigRat) bigRat { return new(big.Rat).Quo(dot(v, star), dot(star, star)) }

// schmidt is the b* of rows; false, if one of them is 0.
func schmidt(b [][]bigInt) ([][]bigRat, bool) {
	stars := [][]bigRat{}
	for _, row := range b {
		v := rationals(row)
		rest := rationals(row)
		for _, star := range stars {
			mu := muOf(v, star)
			for i := range rest {
				rest[i] = new(big.Rat).Sub(rest[i], new(big.Rat).Mul(mu, star[i]))
			}
		}
		if dot(rest, rest).Sign() == 0 {
			return nil, false
		}
		stars = append(stars, rest)
	}
	return stars, true
}

// nearest is the floor of a and 1/2.
func nearest(a bigRat) bigInt {
	sum := new(big.Rat).Add(a, big.NewRat(1, 2))
	// The library's Div rounds down, if the divisor is above 0.
	return new(big.Int).Div(sum.Num(), sum.Denom())
}

// sizesOf gives the row k its sizes, in place.
func sizesOf(b [][]bigInt, k int) {
	stars, _ := schmidt(b[:k])
	for j := k - 1; j >= 0; j-- {
		q := nearest(muOf(rationals(b[k]), stars[j]))
		for i := range b[k] {
			b[k][i] = new(big.Int).Sub(b[k][i], new(big.Int).Mul(q, b[j][i]))
		}
	}
}

// stepHolds tells if the step of k holds.
func stepHolds(b [][]bigInt, k int) bool {
	stars, _ := schmidt(b[:k+1])
	return holdsBetween(b[k], stars[k-1], stars[k])
}

// holdsBetween: 3/4 Star(k - 1) <= Star(k) + mu(k, k - 1)^2 Star(k - 1), of the row k and both b*.
func holdsBetween(row []bigInt, before, star []bigRat) bool {
	mu := muOf(rationals(row), before)
	right := new(big.Rat).Mul(mu, mu)
	right.Mul(right, dot(before, before)).Add(right, dot(star, star))
	return new(big.Rat).Mul(big.NewRat(3, 4), dot(before, before)).Cmp(right) <= 0
}

// isReduced: all sizes are from -1/2 on and below 1/2, and all steps hold.
func isReduced(b [][]bigInt) bool {
	stars, _ := schmidt(b)
	half := big.NewRat(1, 2)
	for i := range b {
		for j := range i {
			mu := muOf(rationals(b[i]), stars[j])
			if mu.Cmp(half) >= 0 || mu.Cmp(new(big.Rat).Neg(half)) < 0 {
				return false
			}
		}
		if i > 0 && !holdsBetween(b[i], stars[i-1], stars[i]) {
			return false
		}
	}
	return true
}

// reducedByWords is the basis behind all steps, and the k of the exchanges.
func reducedByWords(given [][]api.Int) ([][]api.Int, []int) {
	b, swaps := wholes(given), []int{}
	for k := 1; k < len(b); {
		sizesOf(b, k)
		if stepHolds(b, k) {
			k++
			continue
		}
		b[k-1], b[k] = b[k], b[k-1]
		swaps = append(swaps, k)
		k = max(k-1, 1)
	}
	return forms(b), swaps
}

// sizedByWords is the basis when each row has had its sizes.
func sizedByWords(given [][]api.Int) [][]api.Int {
	b := wholes(given)
	for k := range b {
		sizesOf(b, k)
	}
	return forms(b)
}

// volume is the product of all D: of the squared lengths of b*, each as often as there are D with it.
func volume(b [][]bigInt) bigRat {
	all, d := big.NewRat(1, 1), big.NewRat(1, 1)
	stars, _ := schmidt(b)
	for _, star := range stars {
		d.Mul(d, dot(star, star))
		all.Mul(all, d)
	}
	return all
}
