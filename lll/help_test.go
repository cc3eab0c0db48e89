package lll_test

import (
	"encoding/binary"
	"math/big"
	"math/rand"
	"slices"
	"testing"

	"trammel/api"
)

const top = 1<<32 - 1

// bigInt and bigRat are the library's own numbers, against which answers are held.
type (
	bigInt = *big.Int
	bigRat = *big.Rat
)

// num is a whole number by its fields.
func num(neg bool, mag ...uint32) api.Int { return api.Int{Neg: neg, Mag: mag} }

// whole is what a whole number's fields are worth.
func whole(a api.Int) bigInt {
	bytes := []byte{}
	for _, limb := range slices.Backward(a.Mag) {
		bytes = binary.BigEndian.AppendUint32(bytes, limb)
	}
	n := new(big.Int).SetBytes(bytes)
	if a.Neg {
		n.Neg(n)
	}
	return n
}

// form is the one form of a whole number.
func form(n bigInt) api.Int {
	bytes := make([]byte, (n.BitLen()+31)/32*4)
	n.FillBytes(bytes)
	out := api.Int{Neg: n.Sign() < 0}
	for ; len(bytes) > 0; bytes = bytes[:len(bytes)-4] {
		out.Mag = append(out.Mag, binary.BigEndian.Uint32(bytes[len(bytes)-4:]))
	}
	return out
}

func small(n int64) api.Int { return form(big.NewInt(n)) }

// power is 2 to the n-th and a bit more.
func power(n uint, more int64) api.Int {
	p := new(big.Int).Lsh(big.NewInt(1), n)
	return form(p.Add(p, big.NewInt(more)))
}

func vec(l ...int64) []api.Int {
	out := []api.Int{}
	for _, n := range l {
		out = append(out, small(n))
	}
	return out
}

func rows(l ...[]api.Int) [][]api.Int { return l }

// unit is n rows with 1 at their own place.
func unit(n int) [][]api.Int {
	out := [][]api.Int{}
	for i := range n {
		row := make([]api.Int, n)
		row[i] = small(1)
		out = append(out, row)
	}
	return out
}

// wholes is the rows in the library's numbers.
func wholes(b [][]api.Int) [][]bigInt {
	out := [][]bigInt{}
	for _, row := range b {
		l := []bigInt{}
		for _, a := range row {
			l = append(l, whole(a))
		}
		out = append(out, l)
	}
	return out
}

// forms is the rows in one form.
func forms(b [][]bigInt) [][]api.Int {
	out := [][]api.Int{}
	for _, row := range b {
		l := []api.Int{}
		for _, n := range row {
			l = append(l, form(n))
		}
		out = append(out, l)
	}
	return out
}

// times is the product of two matrices that go together.
func times(u, b [][]api.Int) [][]api.Int {
	left, right := wholes(u), wholes(b)
	out := [][]bigInt{}
	for _, x := range left {
		sum := make([]bigInt, len(right[0]))
		for j := range sum {
			sum[j] = new(big.Int)
			for i, row := range right {
				sum[j].Add(sum[j], new(big.Int).Mul(x[i], row[j]))
			}
		}
		out = append(out, sum)
	}
	return forms(out)
}

func alike(a, b api.Int) bool { return a.Neg == b.Neg && slices.Equal(a.Mag, b.Mag) }

func alikeRows(a, b [][]api.Int) bool {
	return slices.EqualFunc(a, b, func(u, v []api.Int) bool { return slices.EqualFunc(u, v, alike) })
}

func wantErr(t *testing.T, what string, got, e api.Errno) {
	t.Helper()
	if got != e {
		t.Errorf("%s: error %d instead of %d", what, got, e)
	}
}

// wantRows holds rows against others, field by field: an answer is in one form.
func wantRows(t *testing.T, what string, got, b [][]api.Int) {
	t.Helper()
	if !alikeRows(got, b) {
		t.Errorf("%s: %v instead of %v", what, wholes(got), wholes(b))
	}
}

// digit gives a number of -3 to 3.
func digit(r *rand.Rand) api.Int { return small(int64(r.Intn(7) - 3)) }

// long gives numbers of at most n limbs, half of the limbs at their ends.
func long(n int) func(r *rand.Rand) api.Int {
	return func(r *rand.Rand) api.Int {
		out := api.Int{Neg: r.Intn(2) == 0, Mag: make([]uint32, r.Intn(n+1))}
		for i := range out.Mag {
			out.Mag[i] = r.Uint32()
			if r.Intn(2) == 0 {
				out.Mag[i] = []uint32{0, 1, 1 << 31, top}[r.Intn(4)]
			}
		}
		return out
	}
}

func drawRows(r *rand.Rand, height, width int, one func(r *rand.Rand) api.Int) [][]api.Int {
	b := make([][]api.Int, height)
	for i := range b {
		b[i] = make([]api.Int, width)
		for j := range b[i] {
			b[i][j] = one(r)
		}
	}
	return b
}

// drawBasis gives rows that are independent.
func drawBasis(r *rand.Rand, height, width int, one func(r *rand.Rand) api.Int) [][]api.Int {
	for {
		b := drawRows(r, height, width, one)
		if _, free := schmidt(wholes(b)); free {
			return b
		}
	}
}

// weighted gives rows of which only the first numbers are long: a basis that is far from reduced.
func weighted(r *rand.Rand, height int, bits uint) [][]api.Int {
	b := unit(height)
	for i := range b {
		n := new(big.Int).Rand(r, new(big.Int).Lsh(big.NewInt(1), bits))
		b[i] = append(b[i], form(n))
	}
	return b
}

// twisted is a basis of the same lattice, each number of at most that many bits: rows grow by others as long as there is room.
func twisted(r *rand.Rand, b [][]api.Int, bits int) [][]api.Int {
	out := wholes(b)
	for {
		i, j := r.Intn(len(b)), r.Intn(len(b))
		if i == j {
			continue
		}
		q := big.NewInt(int64(r.Intn(7) - 3))
		grown := []bigInt{}
		for k, n := range out[i] {
			m := new(big.Int).Mul(q, out[j][k])
			m.Add(m, n)
			if m.BitLen() > bits {
				return forms(out)
			}
			grown = append(grown, m)
		}
		out[i] = grown
	}
}

// bases are some: small and long numbers, as many rows as columns and fewer, reduced and far from it.
func bases(seed int64) [][][]api.Int {
	r := rand.New(rand.NewSource(seed))
	out := [][][]api.Int{
		rows(vec(1)), rows(vec(-7)), rows(vec(0, 3)), rows(vec(1, 1), vec(0, 2)), rows(vec(2, 0), vec(1, 2)), rows(vec(5, 3), vec(2, 1)),
		rows([]api.Int{num(true, 2, 0), num(true, 0)}, []api.Int{num(false, top, top, 0, 0), num(false, 0, 1)}),
		rows(vec(0, 0, 1), vec(0, 1, 0), vec(1, 0, 0)),
		rows(vec(9, 0, 0), vec(0, 3, 0), vec(0, 0, 1)),
	}
	for height := 1; height <= 5; height++ {
		for more := range 3 {
			out = append(out, drawBasis(r, height, height+more, digit), drawBasis(r, height, height+more, long(3)))
		}
		out = append(out, weighted(r, height, 40))
		if height > 1 {
			out = append(out, twisted(r, unit(height), 24), twisted(r, drawBasis(r, height, height+1, digit), 20))
		}
	}
	return out
}

// great are bases at the limits.
func great(seed int64) [][][]api.Int {
	r := rand.New(rand.NewSource(seed))
	return [][][]api.Int{
		drawBasis(r, 12, 12, long(8)),
		drawBasis(r, 11, 12, long(8)),
		weighted(r, 11, 256),
		twisted(r, unit(12), 100),
		twisted(r, drawBasis(r, 8, 12, digit), 256),
		rows([]api.Int{power(256, -1)}),
		rows(slices.Repeat([]api.Int{power(256, -1)}, 12)),
		wide(),
	}
}

// wide is a basis of 256 bits that grows beyond them when it is reduced: the difference of its rows is twice their first number, and nothing else.
func wide() [][]api.Int {
	m, minus := power(256, -1), form(new(big.Int).Neg(whole(power(256, -1))))
	first, second := slices.Repeat([]api.Int{m}, 12), slices.Repeat([]api.Int{m}, 12)
	first[0] = minus
	return rows(first, second)
}
