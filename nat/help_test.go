package nat_test

import (
	"math/big"
	"math/rand"
	"slices"
	"testing"

	"trammel/api"
)

const top = 1<<32 - 1

// value is what the limbs are worth, by the library's own big numbers.
func value(a []uint32) *big.Int {
	n := new(big.Int)
	for i := range a {
		n.Lsh(n, 32)
		n.Or(n, big.NewInt(int64(a[len(a)-1-i])))
	}
	return n
}

// limbs is the one form of a number.
func limbs(n *big.Int) []uint32 {
	out := []uint32{}
	mask := big.NewInt(top)
	for n = new(big.Int).Set(n); n.Sign() > 0; n.Rsh(n, 32) {
		out = append(out, uint32(new(big.Int).And(n, mask).Uint64()))
	}
	return out
}

// want holds an answer against a number, limb by limb: an answer has no noughts at its end.
func want(t *testing.T, what string, got []uint32, n *big.Int) {
	t.Helper()
	if !slices.Equal(got, limbs(n)) {
		t.Errorf("%s: %v instead of %v", what, got, limbs(n))
	}
}

func wantErr(t *testing.T, what string, got, e api.Errno) {
	t.Helper()
	if got != e {
		t.Errorf("%s: error %d instead of %d", what, got, e)
	}
}

// none: beside an error a list is empty.
func none(t *testing.T, what string, lists ...[]uint32) {
	t.Helper()
	for _, l := range lists {
		if len(l) != 0 {
			t.Errorf("%s: %v beside an error", what, l)
		}
	}
}

// edges are the limbs at which carries, borrows and guesses go wrong, if they do.
func edges() []uint32 {
	return []uint32{0, 1, 2, 1<<31 - 1, 1 << 31, 1<<31 + 1, top - 1, top}
}

// samples are numbers at their ends and some that are not, noughts at the end of some.
func samples() [][]uint32 {
	out := [][]uint32{nil, {}, {0}, {0, 0, 0}}
	for _, x := range edges() {
		out = append(out, []uint32{x}, []uint32{x, 0})
		for _, y := range edges() {
			out = append(out, []uint32{x, y}, []uint32{x, 0, y}, []uint32{y, x, x, y, 0})
		}
	}
	r := rand.New(rand.NewSource(1))
	for n := range 40 {
		out = append(out, draw(r, n))
	}
	return out
}

// draw gives n limbs, half of them at their ends.
func draw(r *rand.Rand, n int) []uint32 {
	out := make([]uint32, n)
	for i := range out {
		out[i] = r.Uint32()
		if r.Intn(2) == 0 {
			out[i] = edges()[r.Intn(len(edges()))]
		}
	}
	return out
}

// pairs calls f at every pair of the samples.
func pairs(f func(a, b []uint32)) {
	all := samples()
	for _, a := range all {
		for _, b := range all {
			f(a, b)
		}
	}
}
