package filter_test

import (
	"encoding/binary"
	"math/big"
	"math/rand"
	"slices"
	"testing"

	"trammel/api"
	"trammel/gso"
)

const top = 1<<32 - 1

// bigInt and bigRat are the library's own numbers, against which answers are held.
type (
	bigInt = *big.Int
	bigRat = *big.Rat
)

// num is a whole number by its fields.
func num(neg bool, mag ...uint32) api.Int { return api.Int{Neg: neg, Mag: mag} }

// whole is what a whole number's fields are worth.
func whole(a api.Int) bigInt {
	bytes := []byte{}
	for _, limb := range slices.Backward(a.Mag) {
		bytes = binary.BigEndian.AppendUint32(bytes, limb)
	}
	n := new(big.Int).SetBytes(bytes)
	if a.Neg {
		n.Neg(n)
	}
	return n
}

// form is the one form of a whole number.
func form(n bigInt) api.Int {
	bytes := make([]byte, (n.BitLen()+31)/32*4)
	n.FillBytes(bytes)
	out := api.Int{Neg: n.Sign() < 0}
	for ; len(bytes) > 0; bytes = bytes[:len(bytes)-4] {
		out.Mag = append(out.Mag, binary.BigEndian.Uint32(bytes[len(bytes)-4:]))
	}
	return out
}

func small(n int64) api.Int { return form(big.NewInt(n)) }

// power is 2^n, which may be below 1.
func power(n int) bigRat {
	if n < 0 {
		return new(big.Rat).Inv(power(-n))
	}
	return new(big.Rat).SetInt(new(big.Int).Lsh(big.NewInt(1), uint(n)))
}

func vec(l ...int64) []api.Int {
	out := []api.Int{}
	for _, n := range l {
		out = append(out, small(n))
	}
	return out
}

func rows(l ...[]api.Int) [][]api.Int { return l }

// q is a by b, as it is handed in.
func q(a, b int64) api.Rat { return api.Rat{Num: small(a), Den: small(b)} }

// value is what a rational that may be is worth.
func value(r api.Rat) bigRat { return new(big.Rat).SetFrac(whole(r.Num), whole(r.Den)) }

// terms is a rational in lowest terms, in which the library has all of them.
func terms(r bigRat) api.Rat { return api.Rat{Num: form(r.Num()), Den: form(r.Denom())} }

func ratOf(a api.Int) bigRat { return new(big.Rat).SetInt(whole(a)) }

func plus(x, y bigRat) bigRat  { return new(big.Rat).Add(x, y) }
func minus(x, y bigRat) bigRat { return new(big.Rat).Sub(x, y) }
func times(x, y bigRat) bigRat { return new(big.Rat).Mul(x, y) }

// floor is the greatest whole number that is not above x.
func floor(x bigRat) bigInt { return new(big.Int).Div(x.Num(), x.Denom()) }

func alike(a, b api.Int) bool { return a.Neg == b.Neg && slices.Equal(a.Mag, b.Mag) }

// want holds an answer against a rational, field by field: an answer is in lowest terms.
func want(t *testing.T, what string, got api.Rat, e api.Errno, r bigRat) {
	t.Helper()
	if !alike(got.Num, form(r.Num())) || !alike(got.Den, form(r.Denom())) || e != api.OK {
		t.Errorf("%s: %v by %v, error %d, instead of %v", what, whole(got.Num), whole(got.Den), e, r)
	}
}

func wantErr(t *testing.T, what string, got, e api.Errno) {
	t.Helper()
	if got != e {
		t.Errorf("%s: error %d instead of %d", what, got, e)
	}
}

// model is data and a target as the chapter's words have them.
type model struct {
	n    int
	mu   [][]bigRat
	star []bigRat
	t    []bigRat
}

func modelOf(s subject) model {
	m := model{n: len(s.g.L)}
	for i, row := range s.g.L {
		mu := []bigRat{}
		for j, l := range row {
			mu = append(mu, new(big.Rat).SetFrac(whole(l), whole(s.g.D[j+1])))
		}
		m.mu = append(m.mu, mu)
		m.star = append(m.star, new(big.Rat).SetFrac(whole(s.g.D[i+1]), whole(s.g.D[i])))
		m.t = append(m.t, new(big.Rat))
	}
	for j, r := range s.t {
		m.t[j] = value(r)
	}
	return m
}

// shift is s(j).
func (m model) shift(x []api.Int, j int) bigRat { return minus(ratOf(x[m.n-1-j]), m.t[j]) }

// behind is the sum, over j behind i, of s(j) mu(j, i).
func (m model) behind(x []api.Int, i int) bigRat {
	sum := new(big.Rat)
	for j := i + 1; j < m.n; j++ {
		sum.Add(sum, times(m.shift(x, j), m.mu[j][i]))
	}
	return sum
}

func (m model) norm(x []api.Int) bigRat {
	sum := new(big.Rat)
	for i := m.n - len(x); i < m.n; i++ {
		w := plus(m.shift(x, i), m.behind(x, i))
		sum.Add(sum, times(times(w, w), m.star[i]))
	}
	return sum
}

func (m model) centre(x []api.Int) bigRat {
	i := m.n - len(x) - 1
	return minus(m.t[i], m.behind(x, i))
}

// and is a suffix with one number more.
func and(x []api.Int, n bigInt) []api.Int { return append(slices.Clone(x), form(n)) }

// draw gives a number of at most n limbs, half of them at their ends, some of them noughts at its end.
func draw(r *rand.Rand, n int) api.Int {
	out := api.Int{Neg: r.Intn(2) == 0, Mag: make([]uint32, r.Intn(n+1))}
	for i := range out.Mag {
		out.Mag[i] = r.Uint32()
		if r.Intn(2) == 0 {
			out.Mag[i] = []uint32{0, 1, 1 << 31, top}[r.Intn(4)]
		}
	}
	return out
}

// above gives a number above 0, with a limb of 0 at its end now and then.
func above(r *rand.Rand, n int) api.Int {
	a := draw(r, n)
	a.Neg = false
	if whole(a).Sign() == 0 {
		a.Mag = append(a.Mag, 1+uint32(r.Intn(9)), 0)
	}
	return a
}

// digit gives a number of -3 to 3.
func digit(r *rand.Rand) api.Int { return small(int64(r.Intn(7) - 3)) }

// long gives numbers of at most n limbs.
func long(n int) func(r *rand.Rand) api.Int {
	return func(r *rand.Rand) api.Int { return draw(r, n) }
}

func drawVector(r *rand.Rand, width int, one func(r *rand.Rand) api.Int) []api.Int {
	out := make([]api.Int, width)
	for i := range out {
		out[i] = one(r)
	}
	return out
}

func drawBasis(r *rand.Rand, n int, one func(r *rand.Rand) api.Int) [][]api.Int {
	for {
		b := make([][]api.Int, n)
		for i := range b {
			b[i] = drawVector(r, n, one)
		}
		if gso.Valid(b) == api.OK {
			return b
		}
	}
}

// loose gives data that may be, and that no rows need to have: divisions do not come out even there.
func loose(r *rand.Rand, n, limbs int) api.Gso {
	g := api.Gso{D: []api.Int{num(false, 1, 0)}}
	for i := range n {
		g.D = append(g.D, above(r, limbs))
		g.L = append(g.L, drawVector(r, i, long(limbs)))
	}
	return g
}

// subject is data and a target that may be.
type subject struct {
	g api.Gso
	t []api.Rat
}

// datas are data of rows and data of none, some so great or so small that floats are at their end.
func datas(r *rand.Rand) []api.Gso {
	out := []api.Gso{}
	for _, b := range [][][]api.Int{
		rows(vec(1)), rows(vec(-7)), rows(vec(1, 1), vec(0, 2)), rows(vec(2, 0), vec(1, 2)), rows(vec(0, 3)),
		rows(vec(1, 0, 0), vec(0, 1, 0), vec(0, 0, 1)), rows(vec(5, 3, 1), vec(4, -4, 2), vec(1, 1, -9)),
	} {
		g, _ := gso.Of(b)
		out = append(out, g)
	}
	for n := 1; n <= 6; n++ {
		for _, one := range []func(r *rand.Rand) api.Int{digit, long(2)} {
			g, _ := gso.Of(drawBasis(r, n, one))
			out = append(out, g)
		}
		out = append(out, loose(r, n, 1), loose(r, n, 3))
	}
	huge, tiny := form(power(1500).Num()), form(power(700).Num())
	out = append(out,
		api.Gso{D: []api.Int{small(1), huge}, L: rows(nil)},
		api.Gso{D: []api.Int{small(1), huge, small(1)}, L: rows(nil, []api.Int{huge})},
		api.Gso{D: []api.Int{small(1), huge, small(1)}, L: rows(nil, vec(-1))},
		api.Gso{D: []api.Int{small(1), tiny, small(1), tiny}, L: rows(nil, vec(1), vec(1, 1))},
		loose(r, 4, 40),
	)
	// More rows than a basis may have: of data nothing is said.
	return append(out, loose(r, 15, 1))
}

// targets are some for n rows: none, noughts, halves, quotients that need not be in lowest terms, long ones.
func targets(r *rand.Rand, n int) [][]api.Rat {
	out := [][]api.Rat{nil, {}, slices.Repeat([]api.Rat{{Num: num(true, 0), Den: num(false, 7, 0)}}, n), slices.Repeat([]api.Rat{q(1, 2)}, n)}
	near, far := []api.Rat{}, []api.Rat{}
	for range n {
		near = append(near, q(int64(r.Intn(41)-20), int64(r.Intn(12)+1)))
		far = append(far, api.Rat{Num: draw(r, 3), Den: above(r, 3)})
	}
	return append(out, near, far)
}

func subjects(seed int64) []subject {
	r := rand.New(rand.NewSource(seed))
	out := []subject{}
	for _, g := range datas(r) {
		for _, t := range targets(r, len(g.L)) {
			out = append(out, subject{g, t})
		}
	}
	return out
}

// suffixes are some of each length from 0 to n.
func suffixes(r *rand.Rand, n int) [][]api.Int {
	out := [][]api.Int{nil, {}}
	for m := 1; m <= n; m++ {
		out = append(out, make([]api.Int, m), drawVector(r, m, digit), drawVector(r, m, long(3)))
	}
	return append(out, []api.Int{form(power(1400).Num())})
}

// everySuffix calls f with all subjects and suffixes of theirs.
func everySuffix(seed int64, f func(s subject, m model, x []api.Int)) {
	r := rand.New(rand.NewSource(seed))
	for _, s := range subjects(seed + 1) {
		m := modelOf(s)
		for _, x := range suffixes(r, m.n) {
			f(s, m, x)
		}
	}
}

// bounds are some about a norm: itself, a little beside it, much beside it, below nought, beyond all floats.
func bounds(norm bigRat) []api.Rat {
	out := []api.Rat{terms(norm), {Num: form(new(big.Int).Mul(norm.Num(), big.NewInt(6))), Den: form(new(big.Int).Mul(norm.Denom(), big.NewInt(6)))}}
	for _, by := range []bigRat{power(-80), power(-50), power(-45), power(-1), power(0), power(2000)} {
		little := times(norm, by)
		out = append(out, terms(plus(norm, little)), terms(minus(norm, little)), terms(plus(norm, by)), terms(minus(norm, by)))
	}
	return append(out, q(0, 3), q(-1, 2))
}

// unfit are numbers that may not be data.
func unfit() []api.Gso {
	one, two := num(false, 1), num(false, 2)
	zero, below := num(true, 0, 0), num(true, 1)
	return []api.Gso{
		{},
		{D: []api.Int{}, L: [][]api.Int{}},
		{D: []api.Int{one}},
		{D: nil, L: rows(nil)},
		{D: []api.Int{one, two}},
		{D: []api.Int{one, two}, L: rows(nil, vec(1))},
		{D: []api.Int{one, two}, L: rows(vec(1))},
		{D: []api.Int{one, two, two}, L: rows(nil, nil)},
		{D: []api.Int{one, two, two}, L: rows(nil, vec(1, 1))},
		{D: []api.Int{two, two}, L: rows(nil)},
		{D: []api.Int{zero, two}, L: rows(nil)},
		{D: []api.Int{num(false, 1, 1), two}, L: rows(nil)},
		{D: []api.Int{one, {}}, L: rows(nil)},
		{D: []api.Int{one, below}, L: rows(nil)},
		{D: []api.Int{one, zero, two}, L: rows(nil, vec(1))},
		{D: []api.Int{one, two, below}, L: rows(nil, vec(1))},
	}
}

// unfitRats are rationals that may not be.
func unfitRats() []api.Rat {
	return []api.Rat{{}, q(1, 0), q(0, 0), q(1, -2), {Num: small(1), Den: num(false, 0, 0)}, {Num: small(3), Den: num(true, 0, 1)}}
}
