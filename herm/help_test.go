package herm_test

import (
	"encoding/binary"
	"math/big"
	"math/rand"
	"slices"
	"testing"

	"trammel/api"
)

const top = 1<<32 - 1

// bigInt is the library's own number, against which answers are held.
type bigInt = *big.Int

// num is a whole number by its fields.
func num(neg bool, mag ...uint32) api.Int { return api.Int{Neg: neg, Mag: mag} }

// whole is what a whole number's fields are worth.
func whole(a api.Int) bigInt {
	bytes := []byte{}
	for _, limb := range slices.Backward(a.Mag) {
		bytes = binary.BigEndian.AppendUint32(bytes, limb)
	}
	n := new(big.Int).SetBytes(bytes)
	if a.Neg {
		n.Neg(n)
	}
	return n
}

// form is the one form of a whole number.
func form(n bigInt) api.Int {
	bytes := make([]byte, (n.BitLen()+31)/32*4)
	n.FillBytes(bytes)
	out := api.Int{Neg: n.Sign() < 0}
	for ; len(bytes) > 0; bytes = bytes[:len(bytes)-4] {
		out.Mag = append(out.Mag, binary.BigEndian.Uint32(bytes[len(bytes)-4:]))
	}
	return out
}

func small(n int64) api.Int { return form(big.NewInt(n)) }

func vec(l ...int64) []api.Int {
	out := []api.Int{}
	for _, n := range l {
		out = append(out, small(n))
	}
	return out
}

func rows(l ...[]api.Int) [][]api.Int { return l }

// blank is a matrix of noughts.
func blank(height, width int) [][]api.Int {
	out := make([][]api.Int, height)
	for i := range out {
		out[i] = make([]api.Int, width)
	}
	return out
}

// diag is the matrix that has these numbers in its places i, i, and 0 elsewhere.
func diag(l ...int64) [][]api.Int {
	out := blank(len(l), len(l))
	for i, n := range l {
		out[i][i] = small(n)
	}
	return out
}

func unit(n int) [][]api.Int {
	return diag(slices.Repeat([]int64{1}, n)...)
}

func wholes(v []api.Int) []bigInt {
	out := []bigInt{}
	for _, a := range v {
		out = append(out, whole(a))
	}
	return out
}

func forms(l []bigInt) []api.Int {
	out := []api.Int{}
	for _, n := range l {
		out = append(out, form(n))
	}
	return out
}

func formRows(b [][]bigInt) [][]api.Int {
	out := [][]api.Int{}
	for _, row := range b {
		out = append(out, forms(row))
	}
	return out
}

func wholeRows(b [][]api.Int) [][]bigInt {
	out := [][]bigInt{}
	for _, row := range b {
		out = append(out, wholes(row))
	}
	return out
}

// combined is the sum of the rows, each as many times as x says.
func combined(x []api.Int, b [][]api.Int, width int) []api.Int {
	out := make([]api.Int, width)
	for j := range out {
		sum := new(big.Int)
		for i := range b {
			sum.Add(sum, new(big.Int).Mul(whole(x[i]), whole(b[i][j])))
		}
		out[j] = form(sum)
	}
	return out
}

func product(a, b [][]api.Int, width int) [][]api.Int {
	out := [][]api.Int{}
	for _, row := range a {
		out = append(out, combined(row, b, width))
	}
	return out
}

func alike(a, b api.Int) bool { return a.Neg == b.Neg && slices.Equal(a.Mag, b.Mag) }

func alikeLists(u, v []api.Int) bool { return slices.EqualFunc(u, v, alike) }

func alikeRows(a, b [][]api.Int) bool { return slices.EqualFunc(a, b, alikeLists) }

// want holds an answer against a number, field by field: an answer is in one form.
func want(t *testing.T, what string, got api.Int, n bigInt) {
	t.Helper()
	if !alike(got, form(n)) {
		t.Errorf("%s: %v instead of %v", what, got, n)
	}
}

func wantVector(t *testing.T, what string, got, v []api.Int) {
	t.Helper()
	if !alikeLists(got, v) {
		t.Errorf("%s: %v instead of %v", what, got, v)
	}
}

func wantRows(t *testing.T, what string, got, b [][]api.Int) {
	t.Helper()
	if !alikeRows(got, b) {
		t.Errorf("%s: %v instead of %v", what, got, b)
	}
}

func wantErr(t *testing.T, what string, got, e api.Errno) {
	t.Helper()
	if got != e {
		t.Errorf("%s: error %d instead of %d", what, got, e)
	}
}

func wantIs(t *testing.T, what string, got, is bool) {
	t.Helper()
	if got != is {
		t.Errorf("%s: %t", what, got)
	}
}

// sure, sureRows and is are what a call answers that is not to be refused.
func sure(t *testing.T) func(v []api.Int, e api.Errno) []api.Int {
	return func(v []api.Int, e api.Errno) []api.Int {
		t.Helper()
		wantErr(t, "a call", e, api.OK)
		return v
	}
}

func sureRows(t *testing.T) func(b [][]api.Int, e api.Errno) [][]api.Int {
	return func(b [][]api.Int, e api.Errno) [][]api.Int {
		t.Helper()
		wantErr(t, "a call", e, api.OK)
		return b
	}
}

func is(t *testing.T) func(is bool, e api.Errno) bool {
	return func(is bool, e api.Errno) bool {
		t.Helper()
		wantErr(t, "a call", e, api.OK)
		return is
	}
}

// draw gives a number of at most n limbs, half of them at their ends, some of them noughts at its end.
func draw(r *rand.Rand, n int) api.Int {
	out := api.Int{Neg: r.Intn(2) == 0, Mag: make([]uint32, r.Intn(n+1))}
	for i := range out.Mag {
		out.Mag[i] = r.Uint32()
		if r.Intn(2) == 0 {
			out.Mag[i] = []uint32{0, 1, 1 << 31, top}[r.Intn(4)]
		}
	}
	return out
}

// digit gives a number of -2 to 2: of such rows many are dependent.
func digit(r *rand.Rand) api.Int { return small(int64(r.Intn(5) - 2)) }

// even gives numbers with many common divisors, so that heads are seldom 1.
func even(r *rand.Rand) api.Int {
	return small([]int64{0, 0, 2, -4, 6, -12, 12, 18, -36, 30}[r.Intn(10)])
}

// long gives numbers of at most n limbs.
func long(n int) func(r *rand.Rand) api.Int {
	return func(r *rand.Rand) api.Int { return draw(r, n) }
}

func drawVector(r *rand.Rand, width int, one func(r *rand.Rand) api.Int) []api.Int {
	out := make([]api.Int, width)
	for i := range out {
		out[i] = one(r)
	}
	return out
}

func drawRows(r *rand.Rand, height, width int, one func(r *rand.Rand) api.Int) [][]api.Int {
	out := make([][]api.Int, height)
	for i := range out {
		out[i] = drawVector(r, width, one)
	}
	return out
}

// thin gives rows of a rank of at most that.
func thin(r *rand.Rand, height, width, rank int, one func(r *rand.Rand) api.Int) [][]api.Int {
	return product(drawRows(r, height, rank, digit), drawRows(r, rank, width, one), width)
}

// twisted is the rows of b after so many of them have been added to or taken from another one, or exchanged with it: of the same lattice.
func twisted(r *rand.Rand, b [][]api.Int, steps int) [][]api.Int {
	all := wholeRows(b)
	for range steps {
		i, j := r.Intn(len(all)), r.Intn(len(all))
		if i == j {
			for k, n := range all[i] {
				all[i][k] = new(big.Int).Neg(n)
			}
			continue
		}
		all[i], all[j] = all[j], all[i]
		times := big.NewInt(int64(r.Intn(3) - 1))
		for k := range all[i] {
			all[i][k] = new(big.Int).Add(all[i][k], new(big.Int).Mul(times, all[j][k]))
		}
	}
	return formRows(all)
}

// sample is a matrix, and how many entries its rows have or would have.
type sample struct {
	b     [][]api.Int
	width int
}

// ofShape are matrices of one shape, of all ranks, of small and of long numbers.
func ofShape(r *rand.Rand, height, width int) []sample {
	out := []sample{}
	add := func(b [][]api.Int) { out = append(out, sample{b, width}) }
	for range 3 {
		add(drawRows(r, height, width, digit))
		add(drawRows(r, height, width, even))
	}
	add(drawRows(r, height, width, long(1)))
	add(drawRows(r, height, width, long(3)))
	add(blank(height, width))
	for rank := range min(height, width) {
		add(thin(r, height, width, rank, even))
		add(thin(r, height, width, rank, long(2)))
	}
	return out
}

// samples are matrices of all shapes.
func samples(seed int64) []sample {
	r := rand.New(rand.NewSource(seed))
	out := []sample{{nil, 0}, {rows(), 0}}
	for height := 1; height < 6; height++ {
		for width := range 5 {
			out = append(out, ofShape(r, height, width)...)
		}
	}
	return out
}

// couple is two matrices that go together.
type couple struct {
	a, b  [][]api.Int
	width int
}

// couples are such ones, of all shapes and ranks, some of one lattice, some within the other, some in one space.
func couples(seed int64) []couple {
	r := rand.New(rand.NewSource(seed))
	out := []couple{{}, {nil, rows(nil, nil), 0}}
	for width := range 5 {
		all := []sample{{nil, width}}
		for height := 1; height < 5; height++ {
			all = append(all, ofShape(r, height, width)...)
		}
		for i, s := range all {
			out = append(out, couple{s.b, s.b, width}, couple{s.b, all[r.Intn(len(all))].b, width}, couple{s.b, all[(i+1)%len(all)].b, width}, couple{s.b, nil, width})
			if len(s.b) == 0 {
				continue
			}
			within := product(drawRows(r, len(s.b), len(s.b), even), s.b, width)
			more := slices.Concat(s.b, drawRows(r, 1, width, digit))
			out = append(out, couple{within, s.b, width}, couple{s.b, within, width}, couple{s.b, twisted(r, s.b, 9), width}, couple{s.b, more, width}, couple{more, s.b, width})
		}
	}
	return out
}

// boxes calls f with all matrices of that shape whose entries are -most to most.
func boxes(height, width int, most int64, f func(b [][]api.Int)) {
	b := blank(height, width)
	var fill func(at int)
	fill = func(at int) {
		if at == height*width {
			f(b)
			return
		}
		for n := -most; n <= most; n++ {
			b[at/width][at%width] = small(n)
			fill(at + 1)
		}
	}
	fill(0)
}

// shapeless are matrices without a shape, some of them beyond MaxSide too.
func shapeless() [][][]api.Int {
	return [][][]api.Int{
		rows(vec(1, 2), vec(3)), rows(vec(1), vec(2, 3)), rows(nil, vec(0)), rows(vec(0), nil), rows(vec(1, 2), nil, vec(3, 4)),
		append(blank(64, 1), nil), append(blank(65, 65), vec(1)), append(rows(vec(1)), blank(70, 2)...), rows(make([]api.Int, 65), make([]api.Int, 66)),
	}
}

// great are matrices beyond MaxSide.
func great() [][][]api.Int {
	return [][][]api.Int{blank(65, 65), blank(65, 0), blank(65, 1), blank(65, 64), blank(1, 65), blank(64, 65), blank(2000, 3), blank(3, 2000)}
}
