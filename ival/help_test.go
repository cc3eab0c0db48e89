package ival_test

import (
	"encoding/binary"
	"math"
	"math/big"
	"math/rand"
	"slices"
	"testing"

	"trammel/api"
)

const top = 1<<32 - 1

// num is a whole number by its fields.
func num(neg bool, mag ...uint32) api.Int { return api.Int{Neg: neg, Mag: mag} }

// whole is what a whole number's fields are worth, by the library's own big numbers.
func whole(a api.Int) *big.Int {
	bytes := []byte{}
	for _, limb := range slices.Backward(a.Mag) {
		bytes = binary.BigEndian.AppendUint32(bytes, limb)
	}
	n := new(big.Int).SetBytes(bytes)
	if a.Neg {
		n.Neg(n)
	}
	return n
}

// form is the one form of a whole number.
func form(n *big.Int) api.Int {
	bytes := make([]byte, (n.BitLen()+31)/32*4)
	n.FillBytes(bytes)
	out := api.Int{Neg: n.Sign() < 0}
	for ; len(bytes) > 0; bytes = bytes[:len(bytes)-4] {
		out.Mag = append(out.Mag, binary.BigEndian.Uint32(bytes[len(bytes)-4:]))
	}
	return out
}

func small(n int64) api.Int { return form(big.NewInt(n)) }

// q is a by b, as it is handed in.
func q(a, b int64) api.Rat { return api.Rat{Num: small(a), Den: small(b)} }

// value is what a rational that may be is worth.
func value(r api.Rat) *big.Rat { return new(big.Rat).SetFrac(whole(r.Num), whole(r.Den)) }

// terms is a rational in lowest terms, in which the library has all of them.
func terms(r *big.Rat) api.Rat { return api.Rat{Num: form(r.Num()), Den: form(r.Denom())} }

// loose is a rational that is not in lowest terms.
func loose(r *big.Rat, by int64) api.Rat {
	n := big.NewInt(by)
	return api.Rat{Num: form(new(big.Int).Mul(r.Num(), n)), Den: form(new(big.Int).Mul(r.Denom(), n))}
}

func alike(a, b api.Int) bool { return a.Neg == b.Neg && slices.Equal(a.Mag, b.Mag) }

// power is 2^n, which may be below 1.
func power(n int) *big.Rat {
	if n < 0 {
		return new(big.Rat).Inv(power(-n))
	}
	return new(big.Rat).SetInt(new(big.Int).Lsh(big.NewInt(1), uint(n)))
}

// number is what a finite float is worth.
func number(f float64) *big.Rat { return new(big.Rat).SetFloat64(f) }

func plus(x, y *big.Rat) *big.Rat  { return new(big.Rat).Add(x, y) }
func minus(x, y *big.Rat) *big.Rat { return new(big.Rat).Sub(x, y) }
func times(x, y *big.Rat) *big.Rat { return new(big.Rat).Mul(x, y) }

var (
	inf    = math.Inf(1)
	minus0 = math.Copysign(0, -1)
)

const (
	least = math.SmallestNonzeroFloat64
	most  = math.MaxFloat64
	// plain is the least float with all its bits.
	plain = 0x1p-1022
)

// below and above are the floats next to f, as the library has them, but that nought is +0.
func below(f float64) float64 { return math.Nextafter(f, -inf) + 0 }
func above(f float64) float64 { return math.Nextafter(f, inf) + 0 }

// bits tells floats apart as nothing else does: +0 from -0; but all NaNs are one.
func bits(f float64) uint64 {
	if math.IsNaN(f) {
		return math.Float64bits(math.NaN())
	}
	return math.Float64bits(f)
}

func equal(a, b api.Ival) bool { return bits(a.Lo) == bits(b.Lo) && bits(a.Hi) == bits(b.Hi) }

func span(lo, hi float64) api.Ival { return api.Ival{Lo: lo, Hi: hi} }

// within tells by definition if a holds x.
func within(a api.Ival, x *big.Rat) bool {
	low := a.Lo == -inf || a.Lo != inf && number(a.Lo).Cmp(x) <= 0
	high := a.Hi == inf || a.Hi != -inf && number(a.Hi).Cmp(x) >= 0
	return low && high
}

func wantFloat(t *testing.T, what string, got, f float64) {
	t.Helper()
	if bits(got) != bits(f) {
		t.Errorf("%s: %x instead of %x", what, got, f)
	}
}

func want(t *testing.T, what string, got api.Ival, e api.Errno, a api.Ival) {
	t.Helper()
	if !equal(got, a) || e != api.OK {
		t.Errorf("%s: %x to %x, error %d, instead of %x to %x", what, got.Lo, got.Hi, e, a.Lo, a.Hi)
	}
}

func wantErr(t *testing.T, what string, got, e api.Errno) {
	t.Helper()
	if got != e {
		t.Errorf("%s: error %d instead of %d", what, got, e)
	}
}

// edges are floats above nought where something ends.
func edges() []float64 {
	return []float64{
		least, 2 * least, 3 * least, below(plain), plain, above(plain), 2 * plain, 0x1p-538, 0x1p-537, 0x1.8p-537,
		0.1, 0.5, below(1), 1, above(1), 1.5, 2, 3, 0x1p52, 0x1p53 - 1, 0x1p53, 0x1p53 + 2, 0x1p64, 0x1p511, 0x1.6a09e667f3bccp511, 0x1p512, 0x1p1022, 0x1p1023, below(most), most, inf,
	}
}

// floats are all of these with both signs, the noughts, and some that were drawn.
func floats() []float64 {
	out := []float64{0, minus0}
	for _, f := range edges() {
		out = append(out, f, -f)
	}
	r := rand.New(rand.NewSource(1))
	for range 12 {
		out = append(out, draw(r))
	}
	return out
}

// finite are those that are numbers.
func finite() []float64 {
	return slices.DeleteFunc(floats(), func(f float64) bool { return math.IsInf(f, 0) })
}

// nans are several of them.
func nans() []float64 {
	return []float64{math.NaN(), -math.NaN(), inf - inf, math.Float64frombits(0x7ff0000000000001), math.Float64frombits(0xffffffffffffffff)}
}

// draw gives a float that is no NaN: of any size, about 1, or a small whole number.
func draw(r *rand.Rand) float64 {
	f := math.Float64frombits(r.Uint64())
	switch {
	case r.Intn(3) == 0:
		return float64(r.Intn(9) - 4)
	case r.Intn(2) == 0:
		return math.Copysign(1+math.Abs(r.Float64()), f)
	case math.IsNaN(f):
		return inf
	}
	return f
}

func drawSpan(r *rand.Rand) api.Ival {
	x, y := draw(r), draw(r)
	if r.Intn(4) == 0 {
		y = x
	}
	return span(min(x, y), max(x, y))
}

// spans are intervals that may be, of all pairs of floats.
func spans() []api.Ival {
	out := []api.Ival{}
	for _, lo := range floats() {
		for _, hi := range floats() {
			if lo <= hi {
				out = append(out, span(lo, hi))
			}
		}
	}
	return out
}

// some are fewer of them, those of one number, and what is infinite.
func some() []api.Ival {
	out := []api.Ival{span(-inf, inf), span(0, inf), span(-inf, 0), span(minus0, 0), span(0, minus0), span(-most, most), span(-least, least)}
	for _, f := range floats() {
		out = append(out, span(f, f))
	}
	for i, a := range spans() {
		if i%29 == 0 {
			out = append(out, a)
		}
	}
	return out
}

// unfit are intervals that may not be.
func unfit() []api.Ival {
	out := []api.Ival{span(2, 1), span(inf, -inf), span(inf, most), span(-most, -inf), span(least, 0), span(least, minus0), span(0, -least), span(above(1), 1)}
	for _, nan := range nans() {
		for _, f := range []float64{0, 1, inf, -inf, nan} {
			out = append(out, span(nan, f), span(f, nan))
		}
	}
	return out
}

// noughts is 0 in all its fields.
func noughts() []api.Int {
	return []api.Int{{}, num(false, []uint32{}...), num(true), num(false, 0), num(true, 0, 0)}
}

// unfitRats are rationals that may not be.
func unfitRats() []api.Rat {
	out := []api.Rat{{}}
	for _, n := range []api.Int{{}, num(false, 1), num(true, 0, 5)} {
		for _, d := range append(noughts(), num(true, 1), num(true, 2, 0), num(true, 0, 1)) {
			out = append(out, api.Rat{Num: n, Den: d})
		}
	}
	return out
}

// numbers are rationals at floats, between two neighbours, a little beside them, and beyond all of them.
func numbers() []*big.Rat {
	out := []*big.Rat{}
	tiny := power(-1300)
	add := func(x *big.Rat) {
		for _, y := range []*big.Rat{x, plus(x, tiny), minus(x, tiny)} {
			out = append(out, y, new(big.Rat).Neg(y))
		}
	}
	for _, f := range finite() {
		x := number(math.Abs(f))
		add(x)
		next := power(1024)
		if math.Abs(f) < most {
			next = number(above(math.Abs(f)))
		}
		add(times(plus(x, next), big.NewRat(1, 2)))
		add(plus(times(x, big.NewRat(2, 3)), times(next, big.NewRat(1, 3))))
	}
	for _, n := range []int{-5000, -1200, -1076, -1075, 1024, 1025, 1026, 1100, 5000} {
		add(power(n))
		add(times(power(n), big.NewRat(4, 3)))
	}
	return out
}
