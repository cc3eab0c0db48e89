package pool_test

import (
	"cmp"
	"encoding/binary"
	"fmt"
	"math/big"
	"math/rand"
	"slices"
	"strings"
	"testing"

	"trammel/api"
	"trammel/gso"
)

const top = 1<<32 - 1

// bigInt and bigRat are the library's own numbers, against which answers are held.
type (
	bigInt = *big.Int
	bigRat = *big.Rat
)

// num is a whole number by its fields.
func num(neg bool, mag ...uint32) api.Int { return api.Int{Neg: neg, Mag: mag} }

// whole is what a whole number's fields are worth.
func whole(a api.Int) bigInt {
	bytes := []byte{}
	for _, limb := range slices.Backward(a.Mag) {
		bytes = binary.BigEndian.AppendUint32(bytes, limb)
	}
	n := new(big.Int).SetBytes(bytes)
	if a.Neg {
		n.Neg(n)
	}
	return n
}

// form is the one form of a whole number.
func form(n bigInt) api.Int {
	bytes := make([]byte, (n.BitLen()+31)/32*4)
	n.FillBytes(bytes)
	out := api.Int{Neg: n.Sign() < 0}
	for ; len(bytes) > 0; bytes = bytes[:len(bytes)-4] {
		out.Mag = append(out.Mag, binary.BigEndian.Uint32(bytes[len(bytes)-4:]))
	}
	return out
}

func small(n int64) api.Int { return form(big.NewInt(n)) }

// power is 2^n, n from 0 on.
func power(n uint) api.Int { return form(new(big.Int).Lsh(big.NewInt(1), n)) }

func vec(l ...int64) []api.Int {
	out := []api.Int{}
	for _, n := range l {
		out = append(out, small(n))
	}
	return out
}

func rows(l ...[]api.Int) [][]api.Int { return l }

// q is a by b, as it is handed in.
func q(a, b int64) api.Rat { return api.Rat{Num: small(a), Den: small(b)} }

// value is what a rational that may be is worth.
func value(r api.Rat) bigRat { return new(big.Rat).SetFrac(whole(r.Num), whole(r.Den)) }

// terms is a rational in lowest terms, in which the library has all of them.
func terms(r bigRat) api.Rat { return api.Rat{Num: form(r.Num()), Den: form(r.Denom())} }

func ratOf(a api.Int) bigRat { return new(big.Rat).SetInt(whole(a)) }

func plus(x, y bigRat) bigRat  { return new(big.Rat).Add(x, y) }
func minus(x, y bigRat) bigRat { return new(big.Rat).Sub(x, y) }
func times(x, y bigRat) bigRat { return new(big.Rat).Mul(x, y) }

// floor is the greatest whole number that is not above x.
func floor(x bigRat) bigInt { return new(big.Int).Div(x.Num(), x.Denom()) }

func alike(a, b api.Int) bool { return a.Neg == b.Neg && slices.Equal(a.Mag, b.Mag) }

func alikeRow(a, b []api.Int) bool { return slices.EqualFunc(a, b, alike) }

// told is rows as one reads them.
func told(l ...[]api.Int) [][]bigInt {
	out := [][]bigInt{}
	for _, row := range l {
		r := []bigInt{}
		for _, a := range row {
			r = append(r, whole(a))
		}
		out = append(out, r)
	}
	return out
}

func wantErr(t *testing.T, what string, got, e api.Errno) {
	t.Helper()
	if got != e {
		t.Errorf("%s: error %d instead of %d", what, got, e)
	}
}

// model is a tree as chapter 11's words have it.
type model struct {
	n    int
	mu   [][]bigRat
	star []bigRat
	t    []bigRat
	r    bigRat
}

func modelOf(tr api.Tree) model {
	m := model{n: len(tr.G.L), r: value(tr.R)}
	for i, row := range tr.G.L {
		mu := []bigRat{}
		for j, l := range row {
			mu = append(mu, new(big.Rat).SetFrac(whole(l), whole(tr.G.D[j+1])))
		}
		m.mu = append(m.mu, mu)
		m.star = append(m.star, new(big.Rat).SetFrac(whole(tr.G.D[i+1]), whole(tr.G.D[i])))
		m.t = append(m.t, new(big.Rat))
	}
	for j, r := range tr.T {
		m.t[j] = value(r)
	}
	return m
}

// off is x(j) - T[j].
func (m model) off(s []api.Int, j int) bigRat { return minus(ratOf(s[m.n-1-j]), m.t[j]) }

// behind is the sum, over the rows j behind i, of mu(j, i) (x(j) - T[j]).
func (m model) behind(s []api.Int, i int) bigRat {
	sum := new(big.Rat)
	for j := i + 1; j < m.n; j++ {
		sum.Add(sum, times(m.off(s, j), m.mu[j][i]))
	}
	return sum
}

func (m model) part(s []api.Int) bigRat {
	sum := new(big.Rat)
	for i := m.n - len(s); i < m.n; i++ {
		w := plus(m.off(s, i), m.behind(s, i))
		sum.Add(sum, times(times(w, w), m.star[i]))
	}
	return sum
}

func (m model) centre(s []api.Int) bigRat {
	i := m.n - len(s) - 1
	return minus(m.t[i], m.behind(s, i))
}

// seen is a number and how far it is off a centre.
type seen struct {
	n   bigInt
	far bigRat
}

func seenFrom(c bigRat, n bigInt) seen {
	far := minus(new(big.Rat).SetInt(n), c)
	return seen{n, far.Abs(far)}
}

// zigzag is zig-zag order of what is seen from one centre.
func zigzag(x, y seen) int {
	if order := x.far.Cmp(y.far); order != 0 {
		return order
	}
	return y.n.Cmp(x.n)
}

// about are the numbers at most k off a centre's floor, and one above, in zig-zag order: the first 2 k of all.
func about(c bigRat, k int) []bigInt {
	all := []seen{}
	for d := -k; d <= k+1; d++ {
		all = append(all, seenFrom(c, new(big.Int).Add(floor(c), big.NewInt(int64(d)))))
	}
	slices.SortFunc(all, zigzag)
	out := []bigInt{}
	for _, s := range all[:2*k] {
		out = append(out, s.n)
	}
	return out
}

// and is a suffix with one number more.
func and(s []api.Int, n bigInt) []api.Int { return append(slices.Clone(s), form(n)) }

// width is how many children of a suffix are nodes.
func (m model) width(s []api.Int) bigInt {
	left := minus(m.r, m.part(s))
	if left.Sign() < 0 {
		return new(big.Int)
	}
	// A child's number x, c being p by q, is at most so far off the centre: (q x - p) squared is at most square.
	c := m.centre(s)
	p, q := c.Num(), c.Denom()
	square := times(new(big.Rat).Quo(left, m.star[m.n-len(s)-1]), new(big.Rat).SetInt(new(big.Int).Mul(q, q)))
	root := new(big.Int).Sqrt(floor(square))
	most := new(big.Int).Div(new(big.Int).Add(p, root), q)
	below := new(big.Int).Div(new(big.Int).Sub(new(big.Int).Sub(p, root), big.NewInt(1)), q)
	return most.Sub(most, below)
}

// kids are the first most children of a suffix that are nodes: each number of a stretch is looked at by itself.
func (m model) kids(s []api.Int, most int) [][]api.Int {
	out := [][]api.Int{}
	part, c, star := m.part(s), m.centre(s), m.star[m.n-len(s)-1]
	stretch := most
	if width := m.width(s); width.Cmp(big.NewInt(int64(most))) < 0 {
		stretch = int(width.Int64())
	}
	for _, n := range about(c, stretch/2+2) {
		off := minus(new(big.Rat).SetInt(n), c)
		if plus(part, times(times(off, off), star)).Cmp(m.r) <= 0 {
			out = append(out, and(s, n))
		}
	}
	return out[:min(most, len(out))]
}

// nodes are the first most nodes below a suffix, in the order of the tree.
func (m model) nodes(s []api.Int, most int) [][]api.Int {
	out := [][]api.Int{}
	if len(s) == m.n {
		return out
	}
	for _, node := range m.kids(s, most) {
		if len(out) < most {
			out = append(out, node)
			out = append(out, m.nodes(node, most-len(out))...)
		}
	}
	return out
}

// draw gives a number of at most n limbs, half of them at their ends, some of them noughts at its end.
func draw(r *rand.Rand, n int) api.Int {
	out := api.Int{Neg: r.Intn(2) == 0, Mag: make([]uint32, r.Intn(n+1))}
	for i := range out.Mag {
		out.Mag[i] = r.Uint32()
		if r.Intn(2) == 0 {
			out.Mag[i] = []uint32{0, 1, 1 << 31, top}[r.Intn(4)]
		}
	}
	return out
}

// above gives a number above 0, with a limb of 0 at its end now and then.
func above(r *rand.Rand, n int) api.Int {
	a := draw(r, n)
	a.Neg = false
	if whole(a).Sign() == 0 {
		a.Mag = append(a.Mag, 1+uint32(r.Intn(9)), 0)
	}
	return a
}

// digit gives a number of -3 to 3.
func digit(r *rand.Rand) api.Int { return small(int64(r.Intn(7) - 3)) }

// long gives numbers of at most n limbs.
func long(n int) func(r *rand.Rand) api.Int {
	return func(r *rand.Rand) api.Int { return draw(r, n) }
}

func drawVector(r *rand.Rand, width int, one func(r *rand.Rand) api.Int) []api.Int {
	out := make([]api.Int, width)
	for i := range out {
		out[i] = one(r)
	}
	return out
}

func drawBasis(r *rand.Rand, n int, one func(r *rand.Rand) api.Int) [][]api.Int {
	for {
		b := make([][]api.Int, n)
		for i := range b {
			b[i] = drawVector(r, n, one)
		}
		if gso.Valid(b) == api.OK {
			return b
		}
	}
}

// loose gives data that may be, and that no rows need to have: divisions do not come out even there.
func loose(r *rand.Rand, n, limbs int) api.Gso {
	g := api.Gso{D: []api.Int{num(false, 1, 0)}}
	for i := range n {
		g.D = append(g.D, above(r, limbs))
		g.L = append(g.L, drawVector(r, i, long(limbs)))
	}
	return g
}

// datas are data of rows and data of none, of 1 to MaxDim rows.
func datas(r *rand.Rand) []api.Gso {
	out := []api.Gso{}
	for _, b := range [][][]api.Int{
		rows(vec(1)), rows(vec(-7)), rows(vec(1, 0), vec(0, 1)), rows(vec(1, 1), vec(0, 2)), rows(vec(2, 0), vec(1, 2)), rows(vec(0, 3)),
		rows(vec(1, 0, 0), vec(0, 1, 0), vec(0, 0, 1)), rows(vec(5, 3, 1), vec(4, -4, 2), vec(1, 1, -9)),
	} {
		g, _ := gso.Of(b)
		out = append(out, g)
	}
	for n := 1; n <= 5; n++ {
		for _, one := range []func(r *rand.Rand) api.Int{digit, long(2)} {
			g, _ := gso.Of(drawBasis(r, n, one))
			out = append(out, g)
		}
		out = append(out, loose(r, n, 1), loose(r, n, 3))
	}
	g, _ := gso.Of(drawBasis(r, api.MaxDim, digit))
	return append(out, loose(r, 3, 20), loose(r, api.MaxDim, 1), g)
}

// targets are some for n rows: none, noughts, halves, quotients that need not be in lowest terms, long ones.
func targets(r *rand.Rand, n int) [][]api.Rat {
	out := [][]api.Rat{nil, slices.Repeat([]api.Rat{{Num: num(true, 0), Den: num(false, 7, 0)}}, n), slices.Repeat([]api.Rat{q(1, 2)}, n)}
	near, far := []api.Rat{}, []api.Rat{}
	for range n {
		near = append(near, q(int64(r.Intn(41)-20), int64(r.Intn(12)+1)))
		far = append(far, api.Rat{Num: draw(r, 3), Den: above(r, 3)})
	}
	return append(out, near, far)
}

// bounds are some for data: 0, less than 1, some that let few numbers of each row, beyond all of them.
func bounds(r *rand.Rand, g api.Gso) []api.Rat {
	last := new(big.Rat).SetFrac(whole(g.D[len(g.L)]), whole(g.D[len(g.L)-1]))
	few := big.NewRat(int64(r.Intn(20)+1), 3)
	return []api.Rat{
		{Num: num(true, 0, 0), Den: num(false, 5, 0)}, q(4, 6), terms(last), terms(times(last, few)), terms(times(ratOf(g.D[1]), few)),
		{Num: power(3000), Den: above(r, 2)},
	}
}

// trees are many that may be, every third of all.
func trees(seed int64) []api.Tree {
	r := rand.New(rand.NewSource(seed))
	all := []api.Tree{}
	for _, g := range datas(r) {
		for _, t := range targets(r, len(g.L)) {
			for _, bound := range bounds(r, g) {
				all = append(all, api.Tree{G: g, T: t, R: bound})
			}
		}
	}
	out := []api.Tree{}
	for i, tr := range all {
		if (int64(i)+seed)%3 == 0 {
			out = append(out, tr)
		}
	}
	return out
}

// plan is a tree of few nodes, with all of them.
type plan struct {
	tr    api.Tree
	r     bigRat
	nodes []node
}

type node struct {
	s    []api.Int
	part bigRat
}

// planOf takes a tree of at most few nodes; false, if it has more.
func planOf(tr api.Tree, few int) (plan, bool) {
	m := modelOf(tr)
	p := plan{tr: tr, r: m.r}
	for _, s := range m.nodes(nil, few+1) {
		p.nodes = append(p.nodes, node{s, m.part(s)})
	}
	return p, len(p.nodes) <= few
}

// isLeaf tells if a node has as many numbers as there are rows.
func (p plan) isLeaf(s []api.Int) bool { return len(s) == len(p.tr.G.L) }

// smallTrees are some of at most 120 nodes.
func smallTrees(t *testing.T, seed int64) []plan {
	t.Helper()
	r := rand.New(rand.NewSource(seed))
	out := []plan{}
	for range 60 {
		n := 1 + r.Intn(4)
		g, e := gso.Of(drawBasis(r, n, digit))
		wantErr(t, "Of", e, api.OK)
		tr := api.Tree{G: g, T: targets(r, n)[r.Intn(4)], R: q(int64(r.Intn(20)), int64(1+r.Intn(3)))}
		if p, few := planOf(tr, 120); few {
			out = append(out, p)
		}
	}
	if len(out) < 30 {
		t.Errorf("%d trees are few", len(out))
	}
	return out
}

// unfit are numbers that may not be data.
func unfit() []api.Gso {
	one, two := num(false, 1), num(false, 2)
	zero, below := num(true, 0, 0), num(true, 1)
	return []api.Gso{
		{},
		{D: []api.Int{}, L: [][]api.Int{}},
		{D: []api.Int{one}},
		{D: nil, L: rows(nil)},
		{D: []api.Int{one, two}},
		{D: []api.Int{one, two}, L: rows(nil, vec(1))},
		{D: []api.Int{one, two}, L: rows(vec(1))},
		{D: []api.Int{one, two, two}, L: rows(nil, nil)},
		{D: []api.Int{one, two, two}, L: rows(nil, vec(1, 1))},
		{D: []api.Int{two, two}, L: rows(nil)},
		{D: []api.Int{zero, two}, L: rows(nil)},
		{D: []api.Int{one, below}, L: rows(nil)},
		{D: []api.Int{one, zero, two}, L: rows(nil, vec(1))},
	}
}

// unfitRats are rationals that may not be.
func unfitRats() []api.Rat {
	return []api.Rat{{}, q(1, 0), q(0, 0), q(1, -2), {Num: small(1), Den: num(false, 0, 0)}, {Num: small(3), Den: num(true, 0, 1)}}
}

// unfitTrees are trees that may not be, each for one reason.
func unfitTrees() []api.Tree {
	out := []api.Tree{}
	for _, g := range unfit() {
		out = append(out, api.Tree{G: g, R: q(1, 1)})
	}
	r := rand.New(rand.NewSource(7))
	for _, g := range []api.Gso{loose(r, api.MaxDim+1, 1), loose(r, 20, 1)} {
		out = append(out, api.Tree{G: g, R: q(1, 1)})
	}
	g := loose(r, 2, 1)
	for _, m := range []int{1, 3, 50} {
		out = append(out, api.Tree{G: g, T: slices.Repeat([]api.Rat{q(1, 2)}, m), R: q(1, 1)})
	}
	for _, bad := range unfitRats() {
		out = append(out, api.Tree{G: g, R: bad}, api.Tree{G: g, T: []api.Rat{q(1, 2), bad}, R: q(1, 1)}, api.Tree{G: g, T: []api.Rat{bad, q(1, 2)}, R: q(1, 1)})
	}
	for _, below := range []api.Rat{q(-1, 1), q(-1, 1000), {Num: num(true, 0, 1), Den: num(false, 1)}} {
		out = append(out, api.Tree{G: g, R: below})
	}
	return out
}

// treeOf is that of a basis.
func treeOf(t *testing.T, r api.Rat, target []api.Rat, b ...[]api.Int) api.Tree {
	t.Helper()
	g, e := gso.Of(b)
	wantErr(t, "Of", e, api.OK)
	return api.Tree{G: g, T: target, R: r}
}

// square is the tree of the plain square lattice up to 1.
func square(t *testing.T) api.Tree {
	t.Helper()
	return treeOf(t, q(1, 1), nil, vec(1, 0), vec(0, 1))
}

// leaves are found ones of one part, by small numbers.
func leaves(n api.Rat, l ...[]api.Int) []api.Found {
	out := []api.Found{}
	for _, x := range l {
		out = append(out, api.Found{X: x, N: n})
	}
	return out
}

// inWords is found leaves as one reads them.
func inWords(l []api.Found) string {
	words := []string{fmt.Sprint(len(l), ":")}
	for _, f := range l[:min(8, len(l))] {
		words = append(words, fmt.Sprint(told(f.X), " of ", told([]api.Int{f.N.Num, f.N.Den})))
	}
	return strings.Join(words, " ")
}

func isNought(s []api.Int) bool {
	return !slices.ContainsFunc(s, func(a api.Int) bool { return whole(a).Sign() != 0 })
}

// leaf is a leaf's coefficients by rows, and its part.
type leaf struct {
	x []api.Int
	n bigRat
}

// leaves are those of a plan, in the order of the tree.
func (p plan) leaves() []leaf {
	out := []leaf{}
	for _, n := range p.nodes {
		if p.isLeaf(n.s) {
			x := slices.Clone(n.s)
			slices.Reverse(x)
			out = append(out, leaf{x, n.part})
		}
	}
	return out
}

// order is number by number, of lists of any lengths.
func order(a, b []api.Int) int {
	return slices.CompareFunc(a, b, func(x, y api.Int) int { return whole(x).Cmp(whole(y)) })
}

// inOrder is leaves as the program tells them: by rising parts, those of one part number by number.
func inOrder(l []leaf) []api.Found {
	sorted := slices.Clone(l)
	slices.SortFunc(sorted, func(a, b leaf) int {
		return cmp.Or(a.n.Cmp(b.n), order(a.x, b.x))
	})
	out := []api.Found{}
	for _, one := range sorted {
		out = append(out, api.Found{X: one.x, N: terms(one.n)})
	}
	return out
}

// least are the leaves that count and have the least part.
func (p plan) least(nought bool) []leaf {
	out := []leaf{}
	for _, one := range p.leaves() {
		switch {
		case !nought && isNought(one.x) || len(out) > 0 && one.n.Cmp(out[0].n) > 0:
		case len(out) > 0 && one.n.Cmp(out[0].n) == 0:
			out = append(out, one)
		default:
			out = []leaf{one}
		}
	}
	return out
}

// upTo is how many nodes have at most this part.
func (p plan) upTo(part bigRat) int {
	many := 0
	for _, n := range p.nodes {
		if n.part.Cmp(part) <= 0 {
			many++
		}
	}
	return many
}

func alikeFound(a, b api.Found) bool {
	return alikeRow(a.X, b.X) && alike(a.N.Num, b.N.Num) && alike(a.N.Den, b.N.Den)
}

func wantFound(t *testing.T, what string, l []api.Found, e api.Errno, want []api.Found) {
	t.Helper()
	if !slices.EqualFunc(l, want, alikeFound) || e != api.OK {
		t.Errorf("%s: %s, error %d instead of %s", what, inWords(l), e, inWords(want))
	}
}

// ways are options of one budget: few workers and many, by floats and without.
func ways(budget int) []api.Opt {
	out := []api.Opt{}
	for _, workers := range []int{1, 2, 3, 8, api.MaxWorkers} {
		out = append(out, api.Opt{Workers: workers, Budget: budget}, api.Opt{Workers: workers, Budget: budget, Filter: true})
	}
	return out
}

// oneWay is one of these.
func oneWay(r *rand.Rand, budget int) api.Opt {
	l := ways(budget)
	return l[r.Intn(len(l))]
}

// few are plans of at most some nodes: of small trees, and of some of big numbers.
func fewPlans(t *testing.T, seed int64, most int) []plan {
	t.Helper()
	out := smallTrees(t, seed)
	small := len(out)
	for _, tr := range trees(seed) {
		if p, few := planOf(tr, most); few {
			out = append(out, p)
		}
	}
	if len(out) < small+40 {
		t.Errorf("%d trees of big numbers are few", len(out)-small)
	}
	return out
}

// line is the tree of the whole numbers whose squares are at most r.
func line(t *testing.T, r int64) api.Tree {
	t.Helper()
	return treeOf(t, q(r, 1), nil, vec(1))
}

// half is that of the numbers that are at most reach, and a half, from 1/2: an even number of nodes.
func half(t *testing.T, reach int64) api.Tree {
	t.Helper()
	return treeOf(t, q((2*reach+1)*(2*reach+1), 4), []api.Rat{q(1, 2)}, vec(1))
}

// wide is a tree whose root has more children than can be cut.
func wide(t *testing.T) api.Tree {
	t.Helper()
	return treeOf(t, api.Rat{Num: power(99), Den: small(1)}, nil, vec(1, 0), vec(0, 1))
}
