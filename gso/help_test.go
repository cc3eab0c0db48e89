package gso_test

import (
	"encoding/binary"
	"math/big"
	"math/rand"
	"slices"
	"testing"

	"trammel/api"
)

const top = 1<<32 - 1

// bigInt and bigRat are the library's own numbers, against which answers are held.
type (
	bigInt = *big.Int
	bigRat = *big.Rat
)

// num is a whole number by its fields.
func num(neg bool, mag ...uint32) api.Int { return api.Int{Neg: neg, Mag: mag} }

// whole is what a whole number's fields are worth.
func whole(a api.Int) bigInt {
	bytes := []byte{}
	for _, limb := range slices.Backward(a.Mag) {
		bytes = binary.BigEndian.AppendUint32(bytes, limb)
	}
	n := new(big.Int).SetBytes(bytes)
	if a.Neg {
		n.Neg(n)
	}
	return n
}

// form is the one form of a whole number.
func form(n bigInt) api.Int {
	bytes := make([]byte, (n.BitLen()+31)/32*4)
	n.FillBytes(bytes)
	out := api.Int{Neg: n.Sign() < 0}
	for ; len(bytes) > 0; bytes = bytes[:len(bytes)-4] {
		out.Mag = append(out.Mag, binary.BigEndian.Uint32(bytes[len(bytes)-4:]))
	}
	return out
}

func small(n int64) api.Int { return form(big.NewInt(n)) }

// power is 2 to the n-th and a bit more.
func power(n uint, more int64) api.Int {
	p := new(big.Int).Lsh(big.NewInt(1), n)
	return form(p.Add(p, big.NewInt(more)))
}

func vec(l ...int64) []api.Int {
	out := []api.Int{}
	for _, n := range l {
		out = append(out, small(n))
	}
	return out
}

func rows(l ...[]api.Int) [][]api.Int { return l }

// q is a by b, as it is handed in.
func q(a, b int64) api.Rat { return api.Rat{Num: small(a), Den: small(b)} }

// value is what a rational that may be is worth.
func value(a api.Rat) bigRat { return new(big.Rat).SetFrac(whole(a.Num), whole(a.Den)) }

func ratOf(n bigInt) bigRat { return new(big.Rat).SetInt(n) }

func alike(a, b api.Int) bool { return a.Neg == b.Neg && slices.Equal(a.Mag, b.Mag) }

func alikeLists(u, v []api.Int) bool { return slices.EqualFunc(u, v, alike) }

func alikeData(g, h api.Gso) bool {
	return alikeLists(g.D, h.D) && slices.EqualFunc(g.L, h.L, alikeLists)
}

// want holds an answer against a rational, field by field: an answer is in lowest terms.
func want(t *testing.T, what string, got api.Rat, r bigRat) {
	t.Helper()
	if !alike(got.Num, form(r.Num())) || !alike(got.Den, form(r.Denom())) {
		t.Errorf("%s: %v by %v instead of %v", what, whole(got.Num), whole(got.Den), r)
	}
}

// wantData holds data against other ones, field by field: an answer is in one form.
func wantData(t *testing.T, what string, got, g api.Gso) {
	t.Helper()
	if !alikeData(got, g) {
		t.Errorf("%s: %v instead of %v", what, got, g)
	}
}

func wantErr(t *testing.T, what string, got, e api.Errno) {
	t.Helper()
	if got != e {
		t.Errorf("%s: error %d instead of %d", what, got, e)
	}
}

// none: beside an error an answer is its zero value.
func none(t *testing.T, what string, r api.Rat) {
	t.Helper()
	if r.Num.Neg || r.Den.Neg || len(r.Num.Mag) != 0 || len(r.Den.Mag) != 0 {
		t.Errorf("%s: %v beside an error", what, r)
	}
}

func noData(t *testing.T, what string, g api.Gso) {
	t.Helper()
	if len(g.D) != 0 || len(g.L) != 0 {
		t.Errorf("%s: %v beside an error", what, g)
	}
}

// dot is the dot product of two lists of rationals.
func dot(u, v []bigRat) bigRat {
	sum := new(big.Rat)
	for i := range u {
		sum.Add(sum, new(big.Rat).Mul(u[i], v[i]))
	}
	return sum
}

// less takes v times c from u.
func less(u []bigRat, c bigRat, v []bigRat) []bigRat {
	out := []bigRat{}
	for i := range u {
		out = append(out, new(big.Rat).Sub(u[i], new(big.Rat).Mul(c, v[i])))
	}
	return out
}

func rationals(v []api.Int) []bigRat {
	out := []bigRat{}
	for _, a := range v {
		out = append(out, ratOf(whole(a)))
	}
	return out
}

// schmidt is the mu and the squared lengths of b*, as the chapter defines them; false, if a b* is 0.
func schmidt(b [][]api.Int) (mu [][]bigRat, star []bigRat, free bool) {
	bs := [][]bigRat{}
	for _, row := range b {
		v := rationals(row)
		rest := v
		m := []bigRat{}
		for j, other := range bs {
			c := new(big.Rat).Quo(dot(v, other), star[j])
			m = append(m, c)
			rest = less(rest, c, other)
		}
		length := dot(rest, rest)
		if length.Sign() == 0 {
			return nil, nil, false
		}
		mu, star, bs = append(mu, m), append(star, length), append(bs, rest)
	}
	return mu, star, true
}

// defined is the data that the chapter defines.
func defined(t *testing.T, b [][]api.Int) api.Gso {
	t.Helper()
	mu, star, _ := schmidt(b)
	ds := []bigRat{big.NewRat(1, 1)}
	g := api.Gso{D: vec(1)}
	must := func(r bigRat) api.Int {
		if !r.IsInt() {
			t.Errorf("data that are no whole number: %v", r)
		}
		return form(r.Num())
	}
	for i := range b {
		l := []api.Int{}
		for j, m := range mu[i] {
			l = append(l, must(new(big.Rat).Mul(ds[j+1], m)))
		}
		ds = append(ds, new(big.Rat).Mul(ds[i], star[i]))
		g.D, g.L = append(g.D, must(ds[i+1])), append(g.L, l)
	}
	return g
}

// draw gives a number of at most n limbs, half of them at their ends, some of them noughts at its end.
func draw(r *rand.Rand, n int) api.Int {
	out := api.Int{Neg: r.Intn(2) == 0, Mag: make([]uint32, r.Intn(n+1))}
	for i := range out.Mag {
		out.Mag[i] = r.Uint32()
		if r.Intn(2) == 0 {
			out.Mag[i] = []uint32{0, 1, 1 << 31, top}[r.Intn(4)]
		}
	}
	return out
}

// digit gives a number of -3 to 3.
func digit(r *rand.Rand) api.Int { return small(int64(r.Intn(7) - 3)) }

func drawVector(r *rand.Rand, width int, one func(r *rand.Rand) api.Int) []api.Int {
	out := make([]api.Int, width)
	for i := range out {
		out[i] = one(r)
	}
	return out
}

// long gives numbers of at most n limbs.
func long(n int) func(r *rand.Rand) api.Int {
	return func(r *rand.Rand) api.Int { return draw(r, n) }
}

// drawBasis gives rows that are independent.
func drawBasis(r *rand.Rand, height, width int, one func(r *rand.Rand) api.Int) [][]api.Int {
	for {
		b := make([][]api.Int, height)
		for i := range b {
			b[i] = drawVector(r, width, one)
		}
		if _, _, free := schmidt(b); free {
			return b
		}
	}
}

// bases are some: small and long numbers, as many rows as columns and fewer.
func bases(seed int64) [][][]api.Int {
	out := [][][]api.Int{
		rows(vec(1)), rows(vec(-7)), rows(vec(0, 3)), rows(vec(1, 1), vec(0, 2)), rows(vec(2, 0), vec(1, 2)),
		rows([]api.Int{num(true, 2, 0), num(true, 0)}, []api.Int{num(false, top, top, 0, 0), num(false, 0, 1)}),
		rows(vec(0, 0, 1), vec(0, 1, 0), vec(1, 0, 0)),
	}
	r := rand.New(rand.NewSource(seed))
	for height := 1; height <= 5; height++ {
		for more := range 3 {
			out = append(out, drawBasis(r, height, height+more, digit), drawBasis(r, height, height+more, long(3)))
		}
	}
	return out
}

// above gives a number above 0, with a limb of 0 at its end now and then.
func above(r *rand.Rand, n int) api.Int {
	a := draw(r, n)
	a.Neg = false
	if whole(a).Sign() == 0 {
		a.Mag = append(a.Mag, 1+uint32(r.Intn(9)), 0)
	}
	return a
}

// loose gives data that may be, and that no rows need to have: divisions do not come out even there.
func loose(r *rand.Rand, n, limbs int) api.Gso {
	g := api.Gso{D: []api.Int{num(false, 1, 0)}}
	for i := range n {
		g.D = append(g.D, above(r, limbs))
		g.L = append(g.L, drawVector(r, i, long(limbs)))
	}
	return g
}

// datas are data of rows and data of none.
func datas(seed int64) []api.Gso {
	r := rand.New(rand.NewSource(seed))
	out := []api.Gso{}
	for n := 1; n <= 6; n++ {
		out = append(out, loose(r, n, 1), loose(r, n, 3))
	}
	// More rows than a basis may have: of data nothing is said.
	return append(out, loose(r, 15, 1))
}

// unfit are numbers that may not be data.
func unfit() []api.Gso {
	one, two := num(false, 1), num(false, 2)
	zero, below := num(true, 0, 0), num(true, 1)
	return []api.Gso{
		{},
		{D: []api.Int{}, L: [][]api.Int{}},
		{D: []api.Int{one}},
		{D: []api.Int{one}, L: rows(nil)},
		{D: nil, L: rows(nil)},
		{D: []api.Int{one, two}},
		{D: []api.Int{one, two, two}, L: rows(nil)},
		{D: []api.Int{one, two}, L: rows(nil, vec(1))},
		{D: []api.Int{one, two}, L: rows(vec(1))},
		{D: []api.Int{one, two, two}, L: rows(nil, nil)},
		{D: []api.Int{one, two, two}, L: rows(nil, vec(1, 1))},
		{D: []api.Int{one, two, two, two}, L: rows(nil, vec(1, 1), vec(1))},
		{D: []api.Int{two, two}, L: rows(nil)},
		{D: []api.Int{below, two}, L: rows(nil)},
		{D: []api.Int{zero, two}, L: rows(nil)},
		{D: []api.Int{num(false, 1, 1), two}, L: rows(nil)},
		{D: []api.Int{one, zero}, L: rows(nil)},
		{D: []api.Int{one, {}}, L: rows(nil)},
		{D: []api.Int{one, below}, L: rows(nil)},
		{D: []api.Int{one, zero, two}, L: rows(nil, vec(1))},
		{D: []api.Int{one, two, below}, L: rows(nil, vec(1))},
		{D: []api.Int{one, two, zero}, L: rows(nil, vec(1))},
	}
}
