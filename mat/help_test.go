package mat_test

import (
	"math/big"
	"math/rand"
	"slices"
	"testing"

	"trammel/api"
	"trammel/zint"
)

const top = 1<<32 - 1

// bigInt is a number of the library's own, against which answers are held.
type bigInt = *big.Int

func equal(a, b bigInt) bool { return a.Cmp(b) == 0 }

// num is a whole number by its fields.
func num(neg bool, mag ...uint32) api.Int { return api.Int{Neg: neg, Mag: mag} }

// vec is a vector of small numbers.
func vec(l ...int64) []api.Int {
	out := []api.Int{}
	for _, n := range l {
		out = append(out, zint.Of(n))
	}
	return out
}

func rows(l ...[]api.Int) [][]api.Int { return l }

// big1, bigs and bigRows are what numbers, vectors and matrices are worth, by the library's numbers.
func big1(a api.Int) bigInt {
	n := new(big.Int)
	for _, limb := range slices.Backward(a.Mag) {
		n.Lsh(n, 32).Add(n, big.NewInt(int64(limb)))
	}
	if a.Neg {
		n.Neg(n)
	}
	return n
}

func bigs(v []api.Int) []bigInt {
	out := []bigInt{}
	for _, a := range v {
		out = append(out, big1(a))
	}
	return out
}

func bigRows(b [][]api.Int) [][]bigInt {
	out := [][]bigInt{}
	for _, row := range b {
		out = append(out, bigs(row))
	}
	return out
}

// inForm tells if an answer has no limb of 0 at its end, and 0 no minus.
func inForm(a api.Int) bool {
	if len(a.Mag) == 0 {
		return !a.Neg
	}
	return a.Mag[len(a.Mag)-1] != 0
}

// holds tells if an answer is that number, in one form.
func holds(got api.Int, n bigInt) bool { return inForm(got) && big1(got).Cmp(n) == 0 }

func holdAll(got []api.Int, l []bigInt) bool { return slices.EqualFunc(got, l, holds) }

func want(t *testing.T, what string, got api.Int, n bigInt) {
	t.Helper()
	if !holds(got, n) {
		t.Errorf("%s: %v instead of %v", what, got, n)
	}
}

func wantVector(t *testing.T, what string, got []api.Int, l []bigInt) {
	t.Helper()
	if !holdAll(got, l) {
		t.Errorf("%s: %v instead of %v", what, got, l)
	}
}

func wantRows(t *testing.T, what string, got [][]api.Int, l [][]bigInt) {
	t.Helper()
	if !slices.EqualFunc(got, l, holdAll) {
		t.Errorf("%s: %v instead of %v", what, got, l)
	}
}

func wantErr(t *testing.T, what string, got, e api.Errno) {
	t.Helper()
	if got != e {
		t.Errorf("%s: error %d instead of %d", what, got, e)
	}
}

// draw gives a number of at most n limbs, half of them at their ends, some of them noughts at its end.
func draw(r *rand.Rand, n int) api.Int {
	out := api.Int{Neg: r.Intn(2) == 0, Mag: make([]uint32, r.Intn(n+1))}
	for i := range out.Mag {
		out.Mag[i] = r.Uint32()
		if r.Intn(2) == 0 {
			out.Mag[i] = []uint32{0, 1, 1 << 31, top}[r.Intn(4)]
		}
	}
	return out
}

func drawVector(r *rand.Rand, width int) []api.Int {
	out := make([]api.Int, width)
	for i := range out {
		out[i] = draw(r, 5)
	}
	return out
}

func drawRows(r *rand.Rand, height, width int) [][]api.Int {
	out := make([][]api.Int, height)
	for i := range out {
		out[i] = drawVector(r, width)
	}
	return out
}

// noughts is 0 in all its fields.
func noughts() []api.Int {
	return []api.Int{{}, num(false, []uint32{}...), num(true), num(false, 0), num(true, 0, 0)}
}

// vectors are some at the edges: none, noughts, numbers at the ends of a limb, limbs of 0 at their ends.
func vectors() [][]api.Int {
	out := [][]api.Int{
		nil, {}, noughts(), vec(0), vec(1), vec(-1), vec(0, -2, 3), vec(1, 2), vec(3, -4), vec(-3, 4), vec(0, 0, 5),
		{num(true, 0, 0), num(true, 1, 0), num(false, 2)},
		{num(false, top), num(true, top), num(false, 0, 1), num(true, 0, 1), num(false, top, top, 0)},
	}
	r := rand.New(rand.NewSource(1))
	for width := range 6 {
		out = append(out, drawVector(r, width))
	}
	return out
}

// matrices are some with a shape, at the edges too.
func matrices() [][][]api.Int {
	out := [][][]api.Int{nil, {}, {nil}, {{}}, {nil, {}}, {{}, {}, {}}, {vec(1, 2), vec(3, -4)}, {noughts(), noughts()}, {{num(true, 0, 0)}}}
	r := rand.New(rand.NewSource(2))
	for height := range 4 {
		for width := range 4 {
			out = append(out, drawRows(r, height, width))
		}
	}
	return out
}

// shapeless are matrices without a shape.
func shapeless() [][][]api.Int {
	return [][][]api.Int{
		{vec(1, 2), vec(3)}, {vec(1), vec(2, 3)}, {nil, vec(0)}, {vec(0), {}}, {vec(1), vec(2), vec(3), vec(4, 5)}, {vec(1, 2), {}, vec(3, 4)},
	}
}
