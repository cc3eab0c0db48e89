package elim_test

import (
	"encoding/binary"
	"math/big"
	"math/rand"
	"slices"
	"testing"

	"trammel/api"
)

const top = 1<<32 - 1

// bigInt and bigRat are the library's own numbers, against which answers are held.
type (
	bigInt = *big.Int
	bigRat = *big.Rat
)

// num is a whole number by its fields.
func num(neg bool, mag ...uint32) api.Int { return api.Int{Neg: neg, Mag: mag} }

// whole is what a whole number's fields are worth.
func whole(a api.Int) bigInt {
	bytes := []byte{}
	for _, limb := range slices.Backward(a.Mag) {
		bytes = binary.BigEndian.AppendUint32(bytes, limb)
	}
	n := new(big.Int).SetBytes(bytes)
	if a.Neg {
		n.Neg(n)
	}
	return n
}

// form is the one form of a whole number.
func form(n bigInt) api.Int {
	bytes := make([]byte, (n.BitLen()+31)/32*4)
	n.FillBytes(bytes)
	out := api.Int{Neg: n.Sign() < 0}
	for ; len(bytes) > 0; bytes = bytes[:len(bytes)-4] {
		out.Mag = append(out.Mag, binary.BigEndian.Uint32(bytes[len(bytes)-4:]))
	}
	return out
}

func small(n int64) api.Int { return form(big.NewInt(n)) }

func vec(l ...int64) []api.Int {
	out := []api.Int{}
	for _, n := range l {
		out = append(out, small(n))
	}
	return out
}

func rows(l ...[]api.Int) [][]api.Int { return l }

// blank is a matrix of noughts.
func blank(height, width int) [][]api.Int {
	out := make([][]api.Int, height)
	for i := range out {
		out[i] = make([]api.Int, width)
	}
	return out
}

// turned is b's columns as rows.
func turned(b [][]api.Int, width int) [][]api.Int {
	out := blank(width, len(b))
	for i, row := range b {
		for j, a := range row {
			out[j][i] = a
		}
	}
	return out
}

// combined is the sum of the rows, each as many times as x says.
func combined(x []api.Int, b [][]api.Int, width int) []api.Int {
	out := make([]api.Int, width)
	for j := range out {
		sum := new(big.Int)
		for i := range b {
			sum.Add(sum, new(big.Int).Mul(whole(x[i]), whole(b[i][j])))
		}
		out[j] = form(sum)
	}
	return out
}

func product(a, b [][]api.Int, width int) [][]api.Int {
	out := [][]api.Int{}
	for _, row := range a {
		out = append(out, combined(row, b, width))
	}
	return out
}

// put is b with v in the place of the row i.
func put(b [][]api.Int, i int, v []api.Int) [][]api.Int {
	out := slices.Clone(b)
	out[i] = v
	return out
}

// square is the first n entries of the first n rows.
func square(b [][]api.Int, n int) [][]api.Int {
	out := [][]api.Int{}
	for _, row := range b[:n] {
		out = append(out, row[:n])
	}
	return out
}

// laplace is the determinant by its definition, row by row.
func laplace(b [][]api.Int) bigInt {
	if len(b) == 0 {
		return big.NewInt(1)
	}
	sum := new(big.Int)
	for j, a := range b[0] {
		if whole(a).Sign() == 0 {
			continue
		}
		rest := [][]api.Int{}
		for _, row := range b[1:] {
			rest = append(rest, slices.Concat(row[:j], row[j+1:]))
		}
		part := new(big.Int).Mul(whole(a), laplace(rest))
		if j%2 != 0 {
			part.Neg(part)
		}
		sum.Add(sum, part)
	}
	return sum
}

// modular is the rank, and of a square the determinant, found modulo the prime 2^607 - 1: both are right while all determinants of entries are below 2^606.
func modular(b [][]api.Int, width int) (int, bigInt) {
	prime := new(big.Int).Lsh(big.NewInt(1), 607)
	prime.Sub(prime, big.NewInt(1))
	left := [][]bigInt{}
	for _, row := range b {
		l := []bigInt{}
		for _, a := range row {
			l = append(l, new(big.Int).Mod(whole(a), prime))
		}
		left = append(left, l)
	}
	det := big.NewInt(1)
	for c := range width {
		at := slices.IndexFunc(left, func(row []bigInt) bool { return row[c].Sign() != 0 })
		if at < 0 {
			det.SetInt64(0)
			continue
		}
		// The row is taken out of its place: an exchange for each row ahead of it.
		head := left[at]
		left = slices.Delete(left, at, at+1)
		det.Mul(det, head[c]).Mod(det, prime)
		if at%2 != 0 {
			det.Neg(det)
		}
		inverse := new(big.Int).ModInverse(head[c], prime)
		for _, row := range left {
			times := new(big.Int).Mul(row[c], inverse)
			times.Mod(times, prime)
			for j := c; j < width; j++ {
				row[j].Mod(row[j].Sub(row[j], new(big.Int).Mul(times, head[j])), prime)
			}
		}
	}
	det.Mod(det, prime)
	if det.BitLen() > 606 {
		det.Sub(det, prime)
	}
	return len(b) - len(left), det
}

// rankOf is the rank.
func rankOf(b [][]api.Int, width int) int {
	n, _ := modular(b, width)
	return n
}

// detOf is the determinant.
func detOf(b [][]api.Int) bigInt {
	if len(b) <= 6 {
		return laplace(b)
	}
	_, d := modular(b, len(b))
	return d
}

// divided is a matrix brought into reduced steps with fractions, each head being 1, and the heads.
func divided(b [][]api.Int, width int) (out [][]bigRat, heads []int) {
	for _, row := range b {
		l := []bigRat{}
		for _, a := range row {
			l = append(l, new(big.Rat).SetInt(whole(a)))
		}
		out = append(out, l)
	}
	for c := range width {
		k := len(heads)
		at := k
		for at < len(out) && out[at][c].Sign() == 0 {
			at++
		}
		if at == len(out) {
			continue
		}
		out[k], out[at] = out[at], out[k]
		heads = append(heads, c)
		head := new(big.Rat).Set(out[k][c])
		for j := range out[k] {
			out[k][j].Quo(out[k][j], head)
		}
		for i := range out {
			times := new(big.Rat).Set(out[i][c])
			if i == k || times.Sign() == 0 {
				continue
			}
			for j := c; j < width; j++ {
				out[i][j].Sub(out[i][j], new(big.Rat).Mul(times, out[k][j]))
			}
		}
	}
	return out[:len(heads)], heads
}

// reduced is the reduced steps, and their heads, as the chapter defines them.
func reduced(b [][]api.Int, width int) ([][]api.Int, []int) {
	l, heads := divided(b, width)
	out := [][]api.Int{}
	for _, row := range l {
		out = append(out, scaled(row))
	}
	return out, heads
}

// scaled is a list of fractions times the number above 0 that makes it whole numbers without a common divisor.
func scaled(l []bigRat) []api.Int {
	times := big.NewInt(1)
	for _, r := range l {
		g := new(big.Int).GCD(nil, nil, times, r.Denom())
		times.Mul(times, new(big.Int).Quo(r.Denom(), g))
	}
	all, g := []bigInt{}, new(big.Int)
	for _, r := range l {
		n := new(big.Rat).Mul(r, new(big.Rat).SetInt(times)).Num()
		all = append(all, n)
		g.GCD(nil, nil, g, new(big.Int).Abs(n))
	}
	out := []api.Int{}
	for _, n := range all {
		out = append(out, form(new(big.Int).Quo(n, g)))
	}
	return out
}

func alike(a, b api.Int) bool { return a.Neg == b.Neg && slices.Equal(a.Mag, b.Mag) }

func alikeLists(u, v []api.Int) bool { return slices.EqualFunc(u, v, alike) }

func alikeRows(a, b [][]api.Int) bool { return slices.EqualFunc(a, b, alikeLists) }

// want holds an answer against a number, field by field: an answer is in one form.
func want(t *testing.T, what string, got api.Int, n bigInt) {
	t.Helper()
	if !alike(got, form(n)) {
		t.Errorf("%s: %v instead of %v", what, got, n)
	}
}

func wantVector(t *testing.T, what string, got, v []api.Int) {
	t.Helper()
	if !alikeLists(got, v) {
		t.Errorf("%s: %v instead of %v", what, got, v)
	}
}

func wantRows(t *testing.T, what string, got, b [][]api.Int) {
	t.Helper()
	if !alikeRows(got, b) {
		t.Errorf("%s: %v instead of %v", what, got, b)
	}
}

func wantErr(t *testing.T, what string, got, e api.Errno) {
	t.Helper()
	if got != e {
		t.Errorf("%s: error %d instead of %d", what, got, e)
	}
}

// draw gives a number of at most n limbs, half of them at their ends, some of them noughts at its end.
func draw(r *rand.Rand, n int) api.Int {
	out := api.Int{Neg: r.Intn(2) == 0, Mag: make([]uint32, r.Intn(n+1))}
	for i := range out.Mag {
		out.Mag[i] = r.Uint32()
		if r.Intn(2) == 0 {
			out.Mag[i] = []uint32{0, 1, 1 << 31, top}[r.Intn(4)]
		}
	}
	return out
}

// digit gives a number of -2 to 2: of such rows many are dependent.
func digit(r *rand.Rand) api.Int { return small(int64(r.Intn(5) - 2)) }

// long gives numbers of at most n limbs.
func long(n int) func(r *rand.Rand) api.Int {
	return func(r *rand.Rand) api.Int { return draw(r, n) }
}

func drawVector(r *rand.Rand, width int, one func(r *rand.Rand) api.Int) []api.Int {
	out := make([]api.Int, width)
	for i := range out {
		out[i] = one(r)
	}
	return out
}

func drawRows(r *rand.Rand, height, width int, one func(r *rand.Rand) api.Int) [][]api.Int {
	out := make([][]api.Int, height)
	for i := range out {
		out[i] = drawVector(r, width, one)
	}
	return out
}

// thin gives rows of a rank of at most that.
func thin(r *rand.Rand, height, width, rank int, one func(r *rand.Rand) api.Int) [][]api.Int {
	return product(drawRows(r, height, rank, digit), drawRows(r, rank, width, one), width)
}

// sample is a matrix, and how many entries its rows have or would have.
type sample struct {
	b     [][]api.Int
	width int
}

// samples are matrices of all shapes and ranks, of small and of long numbers.
func samples(seed int64) []sample {
	r := rand.New(rand.NewSource(seed))
	out := []sample{{nil, 0}, {rows(nil), 0}, {rows(nil, nil, nil), 0}}
	add := func(b [][]api.Int, width int) { out = append(out, sample{b, width}) }
	for height := range 6 {
		for width := range 6 {
			if height == 0 {
				width = 0
			}
			for range 4 {
				add(drawRows(r, height, width, digit), width)
				add(drawRows(r, height, width, long(1)), width)
			}
			add(drawRows(r, height, width, long(3)), width)
			add(blank(height, width), width)
			for rank := range min(height, width) {
				add(thin(r, height, width, rank, digit), width)
				add(thin(r, height, width, rank, long(3)), width)
			}
		}
	}
	return out
}

// squares are those of the samples that are square.
func squares(seed int64) [][][]api.Int {
	out := [][][]api.Int{}
	for _, s := range samples(seed) {
		if len(s.b) == s.width {
			out = append(out, s.b)
		}
	}
	return out
}

// signs calls f with all squares of n rows whose entries are -1, 0 and 1.
func signs(n int, f func(b [][]api.Int)) {
	b := blank(n, n)
	var fill func(at int)
	fill = func(at int) {
		if at == n*n {
			f(b)
			return
		}
		for k := range int64(3) {
			b[at/n][at%n] = small(k - 1)
			fill(at + 1)
		}
	}
	fill(0)
}

// shapeless are matrices without a shape, some of them beyond MaxSide too.
func shapeless() [][][]api.Int {
	return [][][]api.Int{
		rows(vec(1, 2), vec(3)), rows(vec(1), vec(2, 3)), rows(nil, vec(0)), rows(vec(0), nil), rows(vec(1, 2), nil, vec(3, 4)),
		append(blank(64, 1), nil), append(blank(65, 65), vec(1)), append(rows(vec(1)), blank(70, 2)...), rows(make([]api.Int, 65), make([]api.Int, 66)),
	}
}

// great are matrices beyond MaxSide, square and not.
func great() [][][]api.Int {
	return [][][]api.Int{blank(65, 65), blank(65, 0), blank(65, 1), blank(65, 64), blank(1, 65), blank(64, 65), blank(2000, 3), blank(3, 2000)}
}

// oblong are matrices that are not square.
func oblong() [][][]api.Int {
	return [][][]api.Int{rows(nil), rows(nil, nil), rows(vec(1, 2)), rows(vec(1), vec(2)), rows(vec(1, 0, 0), vec(0, 1, 0)), blank(64, 63), blank(63, 64), blank(64, 0), blank(1, 64)}
}
