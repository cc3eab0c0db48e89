package rat_test

import (
	"encoding/binary"
	"math/big"
	"math/rand"
	"slices"
	"testing"

	"trammel/api"
)

const top = 1<<32 - 1

// num is a whole number by its fields.
func num(neg bool, mag ...uint32) api.Int { return api.Int{Neg: neg, Mag: mag} }

// whole is what a whole number's fields are worth, by the library's own big numbers.
func whole(a api.Int) *big.Int {
	bytes := []byte{}
	for _, limb := range slices.Backward(a.Mag) {
		bytes = binary.BigEndian.AppendUint32(bytes, limb)
	}
	n := new(big.Int).SetBytes(bytes)
	if a.Neg {
		n.Neg(n)
	}
	return n
}

// form is the one form of a whole number.
func form(n *big.Int) api.Int {
	bytes := make([]byte, (n.BitLen()+31)/32*4)
	n.FillBytes(bytes)
	out := api.Int{Neg: n.Sign() < 0}
	for ; len(bytes) > 0; bytes = bytes[:len(bytes)-4] {
		out.Mag = append(out.Mag, binary.BigEndian.Uint32(bytes[len(bytes)-4:]))
	}
	return out
}

func small(n int64) api.Int { return form(big.NewInt(n)) }

// q is a by b, as it is handed in.
func q(a, b int64) api.Rat { return api.Rat{Num: small(a), Den: small(b)} }

// value is what a rational that may be is worth.
func value(a api.Rat) *big.Rat { return new(big.Rat).SetFrac(whole(a.Num), whole(a.Den)) }

// terms is a rational in lowest terms, in which the library has all of them.
func terms(r *big.Rat) api.Rat { return api.Rat{Num: form(r.Num()), Den: form(r.Denom())} }

func alike(a, b api.Int) bool { return a.Neg == b.Neg && slices.Equal(a.Mag, b.Mag) }

// want holds an answer against a rational, field by field: an answer is in lowest terms.
func want(t *testing.T, what string, got api.Rat, r *big.Rat) {
	t.Helper()
	if !alike(got.Num, form(r.Num())) || !alike(got.Den, form(r.Denom())) {
		t.Errorf("%s: %v instead of %v", what, got, terms(r))
	}
}

func wantInt(t *testing.T, what string, got api.Int, n *big.Int) {
	t.Helper()
	if !alike(got, form(n)) {
		t.Errorf("%s: %v instead of %v", what, got, form(n))
	}
}

func wantErr(t *testing.T, what string, got, e api.Errno) {
	t.Helper()
	if got != e {
		t.Errorf("%s: error %d instead of %d", what, got, e)
	}
}

// none: beside an error a rational is its zero value.
func none(t *testing.T, what string, a api.Rat) {
	t.Helper()
	noInt(t, what, a.Num)
	noInt(t, what, a.Den)
}

func noInt(t *testing.T, what string, a api.Int) {
	t.Helper()
	if a.Neg || len(a.Mag) != 0 {
		t.Errorf("%s: %v beside an error", what, a)
	}
}

// noughts is 0 in all its fields.
func noughts() []api.Int {
	return []api.Int{{}, num(false, []uint32{}...), num(true), num(false, 0), num(true, 0, 0)}
}

// ints are whole numbers with both signs, some of them at the ends of a limb, some with limbs of 0 at their end.
func ints() []api.Int {
	out := noughts()
	for _, mag := range [][]uint32{{1}, {2}, {3, 0}, {6}, {1 << 31}, {top}, {0, 1}, {0, 6, 0, 0}, {top, top}, {1, 0, 1}, {12, 1 << 31, 0, 3}} {
		out = append(out, num(false, mag...), num(true, mag...))
	}
	r := rand.New(rand.NewSource(1))
	for n := range 4 {
		out = append(out, draw(r, 3*n+1))
	}
	return out
}

// samples are rationals that may be; most of them are not in lowest terms.
func samples() []api.Rat {
	out := []api.Rat{}
	for _, n := range ints() {
		for _, d := range []api.Int{num(false, 1), num(false, 2, 0), num(false, 6), num(false, 0, 1), num(false, top, top, 0)} {
			out = append(out, api.Rat{Num: n, Den: d})
		}
	}
	for n := int64(-6); n <= 6; n++ {
		out = append(out, q(n, 3), q(n, 4))
	}
	return out
}

// unfit are rationals that may not be.
func unfit() []api.Rat {
	out := []api.Rat{{}}
	for _, n := range []api.Int{{}, num(false, 1), num(true, 0, 5)} {
		for _, d := range append(noughts(), num(true, 1), num(true, 2, 0), num(true, 0, 1)) {
			out = append(out, api.Rat{Num: n, Den: d})
		}
	}
	return out
}

// draw gives a whole number of n limbs, half of them at their ends.
func draw(r *rand.Rand, n int) api.Int {
	out := api.Int{Neg: r.Intn(2) == 0, Mag: make([]uint32, n)}
	for i := range out.Mag {
		out.Mag[i] = r.Uint32()
		if r.Intn(2) == 0 {
			out.Mag[i] = []uint32{0, 1, 1 << 31, top}[r.Intn(4)]
		}
	}
	return out
}

// drawRat gives a rational that may be, of at most n limbs each; half of them with something to cancel.
func drawRat(r *rand.Rand, n int) api.Rat {
	a, b := whole(draw(r, r.Intn(n))), whole(draw(r, r.Intn(n)))
	b.Abs(b).Add(b, big.NewInt(1))
	if r.Intn(2) == 0 {
		c := whole(draw(r, 1+r.Intn(n)))
		c.Abs(c).Add(c, big.NewInt(1))
		a.Mul(a, c)
		b.Mul(b, c)
	}
	return api.Rat{Num: form(a), Den: form(b)}
}

// pairs calls f at every pair of the samples.
func pairs(f func(a, b api.Rat)) {
	all := samples()
	for _, a := range all {
		for _, b := range all {
			f(a, b)
		}
	}
}
