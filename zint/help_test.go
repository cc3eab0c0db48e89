package zint_test

import (
	"encoding/binary"
	"math/big"
	"math/rand"
	"slices"
	"testing"

	"trammel/api"
)

const top = 1<<32 - 1

// num is a number by its fields.
func num(neg bool, mag ...uint32) api.Int { return api.Int{Neg: neg, Mag: mag} }

// value is what the fields are worth, by the library's own big numbers.
func value(a api.Int) *big.Int {
	bytes := []byte{}
	for _, limb := range slices.Backward(a.Mag) {
		bytes = binary.BigEndian.AppendUint32(bytes, limb)
	}
	n := new(big.Int).SetBytes(bytes)
	if a.Neg {
		n.Neg(n)
	}
	return n
}

// form is the one form of a number.
func form(n *big.Int) api.Int {
	bytes := make([]byte, (n.BitLen()+31)/32*4)
	n.FillBytes(bytes)
	out := api.Int{Neg: n.Sign() < 0}
	for ; len(bytes) > 0; bytes = bytes[:len(bytes)-4] {
		out.Mag = append(out.Mag, binary.BigEndian.Uint32(bytes[len(bytes)-4:]))
	}
	return out
}

func alike(a, b api.Int) bool { return a.Neg == b.Neg && slices.Equal(a.Mag, b.Mag) }

// want holds an answer against a number, field by field: an answer is in one form.
func want(t *testing.T, what string, got api.Int, n *big.Int) {
	t.Helper()
	if !alike(got, form(n)) {
		t.Errorf("%s: %v instead of %v", what, got, form(n))
	}
}

func wantErr(t *testing.T, what string, got, e api.Errno) {
	t.Helper()
	if got != e {
		t.Errorf("%s: error %d instead of %d", what, got, e)
	}
}

// none: beside an error a number is its zero value.
func none(t *testing.T, what string, l ...api.Int) {
	t.Helper()
	for _, a := range l {
		if a.Neg || len(a.Mag) != 0 {
			t.Errorf("%s: %v beside an error", what, a)
		}
	}
}

// noughts is 0 in all its fields.
func noughts() []api.Int {
	return []api.Int{
		{}, num(false, []uint32{}...), num(true), num(false, 0), num(true, 0), num(false, 0, 0, 0), num(true, 0, 0),
	}
}

// samples are numbers at their ends and some that are not, with both signs, limbs of 0 at the end of some.
func samples() []api.Int {
	out := noughts()
	ends := []uint32{1, 2, 3, 1<<31 - 1, 1 << 31, top - 1, top}
	for i, x := range ends {
		y := ends[len(ends)-1-i]
		for _, mag := range [][]uint32{{x}, {x, 0}, {0, x}, {x, y}, {x, 0, y, 0}, {0, 0, x, y, x}} {
			out = append(out, num(false, mag...), num(true, mag...))
		}
	}
	r := rand.New(rand.NewSource(1))
	for n := range 12 {
		out = append(out, draw(r, n))
	}
	return out
}

// draw gives a number of n limbs, half of them at their ends.
func draw(r *rand.Rand, n int) api.Int {
	out := api.Int{Neg: r.Intn(2) == 0, Mag: make([]uint32, n)}
	for i := range out.Mag {
		out.Mag[i] = r.Uint32()
		if r.Intn(2) == 0 {
			out.Mag[i] = []uint32{0, 1, 1 << 31, top}[r.Intn(4)]
		}
	}
	return out
}

// pairs calls f at every pair of the samples.
func pairs(f func(a, b api.Int)) {
	all := samples()
	for _, a := range all {
		for _, b := range all {
			f(a, b)
		}
	}
}

// power is 2^n.
func power(n int) *big.Int { return new(big.Int).Lsh(big.NewInt(1), uint(n)) }
