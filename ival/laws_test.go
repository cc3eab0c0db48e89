package ival_test

import (
	"math/big"
	"math/rand"
	"testing"

	"trammel/api"
	"trammel/ival"
)

// IV5, and G6 as far as intervals go: what they are sure of is so.

// inside are numbers that a holds: its ends, what is just inside them, and one that was drawn.
func inside(r *rand.Rand, a api.Ival) []*big.Rat {
	lo, hi := a.Lo, a.Hi
	if lo == inf || hi == -inf {
		return nil
	}
	from, to := new(big.Rat), new(big.Rat)
	switch {
	case lo == -inf && hi == inf:
		from, to = power(1100).Neg(power(1100)), power(1101)
	case lo == -inf:
		to = number(hi)
		from = minus(to, power(1100))
	case hi == inf:
		from = number(lo)
		to = plus(from, power(1100))
	default:
		from, to = number(lo), number(hi)
	}
	out := []*big.Rat{from, to}
	for _, part := range []*big.Rat{big.NewRat(1, 3), power(-1200), minus(power(0), power(-1200)), big.NewRat(r.Int63(), 1<<62+1<<61)} {
		if x := plus(from, times(minus(to, from), part)); x.Cmp(to) <= 0 {
			out = append(out, x)
		}
	}
	return out
}

// mustHold asks the package and the definition.
func mustHold(t *testing.T, what string, a api.Ival, e api.Errno, x *big.Rat) {
	t.Helper()
	wantErr(t, what, e, api.OK)
	wantErr(t, what, ival.Valid(a), api.OK)
	if is, e := ival.Holds(a, terms(x)); !is || e != api.OK || !within(a, x) {
		t.Errorf("%s: %x to %x does not hold %v", what, a.Lo, a.Hi, x.FloatString(30))
	}
}

func checkLaws(t *testing.T, r *rand.Rand, a, b api.Ival) {
	t.Helper()
	sum, e1 := ival.Add(a, b)
	less, e2 := ival.Sub(a, b)
	product, e3 := ival.Mul(a, b)
	square, e4 := ival.Sqr(a)
	order, sure, e5 := ival.Cmp(a, b)
	wantErr(t, "Cmp", e5, api.OK)
	for _, x := range inside(r, a) {
		mustHold(t, "Sqr", square, e4, times(x, x))
		for _, y := range inside(r, b) {
			mustHold(t, "Add", sum, e1, plus(x, y))
			mustHold(t, "Sub", less, e2, minus(x, y))
			mustHold(t, "Mul", product, e3, times(x, y))
			if sure && order != x.Cmp(y) {
				t.Errorf("Cmp(%v, %v) is sure of %d", a, b, order)
			}
		}
	}
}

func TestLaws(t *testing.T) {
	r := rand.New(rand.NewSource(11))
	all := some()
	for range 400 {
		checkLaws(t, r, all[r.Intn(len(all))], all[r.Intn(len(all))])
		checkLaws(t, r, drawSpan(r), drawSpan(r))
	}
}

// TestChainsHold reckons a sum of products in both ways, as whoever stands on intervals does.
func TestChainsHold(t *testing.T) {
	r := rand.New(rand.NewSource(12))
	for range 300 {
		sum, exact := span(0, 0), new(big.Rat)
		for range 8 {
			x := big.NewRat(r.Int63n(2001)-1000, r.Int63n(1000)+1)
			y := times(big.NewRat(r.Int63()-r.Int63(), r.Int63()+1), power(r.Intn(1500)-900))
			a, _ := ival.OfRat(terms(x))
			b, _ := ival.OfRat(terms(y))
			p, _ := ival.Mul(a, b)
			s, _ := ival.Sqr(p)
			d, _ := ival.Sub(s, a)
			sum, _ = ival.Add(sum, d)
			exact = plus(exact, minus(times(times(x, y), times(x, y)), x))
			mustHold(t, "a chain", sum, api.OK, exact)
		}
	}
}

// TestNumbersAreHeld: OfInt, OfRat hold their numbers; of two the order that Cmp is sure of is theirs, and it is sure, if a float lies between them.
func TestNumbersAreHeld(t *testing.T) {
	all := numbers()
	for i, x := range all {
		a, e := ival.OfRat(terms(x))
		mustHold(t, "OfRat", a, e, x)
		if x.IsInt() {
			mustHold(t, "OfInt", ival.OfInt(form(x.Num())), api.OK, x)
		}
		for j := i % 11; j < len(all); j += 11 {
			b, _ := ival.OfRat(terms(all[j]))
			order, sure, e := ival.Cmp(a, b)
			if e != api.OK || sure && order != x.Cmp(all[j]) {
				t.Errorf("Cmp of %v and %v: %d, %d", x, all[j], order, e)
			}
			if apart := a.Hi < b.Lo || a.Lo > b.Hi; apart && !sure {
				t.Errorf("Cmp of %v and %v is not sure", x, all[j])
			}
		}
	}
}

// TestNarrowerIsWithin: what a narrower interval comes to lies within what a wider one does.
func TestNarrowerIsWithin(t *testing.T) {
	r := rand.New(rand.NewSource(13))
	calls := []func(a, b api.Ival) (api.Ival, api.Errno){ival.Add, ival.Sub, ival.Mul, func(a, b api.Ival) (api.Ival, api.Errno) { return ival.Sqr(a) }}
	for range 20000 {
		a, b := drawSpan(r), drawSpan(r)
		x, y := draw(r), draw(r)
		wide := span(min(a.Lo, x), max(a.Hi, y))
		for _, call := range calls {
			small, _ := call(a, b)
			great, e := call(wide, b)
			if e != api.OK || great.Lo > small.Lo || great.Hi < small.Hi {
				t.Errorf("%v within %v, by %v: %v and %v", a, wide, b, small, great)
			}
		}
	}
}
