package walk_test

import (
	"math/big"
	"math/rand"
	"slices"
	"strconv"
	"strings"
	"testing"

	"trammel/api"
	"trammel/walk"
)

// P12.2, P12.3 and Save, held against a walker by the chapter's words.

// world is a tree of at most 120 nodes with all of them, in the tree's order.
type world struct {
	tr    api.Tree
	m     model
	nodes [][]api.Int
	parts []bigRat
}

func worldOf(tr api.Tree) world {
	w := world{tr: tr, m: modelOf(tr)}
	w.nodes = w.m.nodes(nil, 121)
	for _, node := range w.nodes {
		w.parts = append(w.parts, w.m.part(node))
	}
	return w
}

// shadow is such a walker: whoever asks it for the next node is told the first one in the list with which all is well.
type shadow struct {
	root    []api.Int
	nodes   [][]api.Int // those that begin with the root
	parts   []bigRat
	skipped [][]api.Int
	bound   bigRat
	at      int // the place of the last node, -1, if there is none
	told    int
	mark    string
}

func (w world) shadow(root []api.Int) *shadow {
	s := &shadow{root: inForm(root), bound: w.m.r, at: -1, mark: "new"}
	for i, node := range w.nodes {
		if begins(node, s.root) {
			s.nodes = append(s.nodes, node)
			s.parts = append(s.parts, w.parts[i])
		}
	}
	return s
}

func (s *shadow) isSkipped(node []api.Int) bool {
	return slices.ContainsFunc(s.skipped, func(with []api.Int) bool { return begins(node, with) })
}

func (s *shadow) isAtNode() bool { return s.mark == "on" || s.mark == "skip" }

// next is the next node; none at the end.
func (s *shadow) next() []api.Int {
	for i := s.at + 1; i < len(s.nodes) && s.mark != "end"; i++ {
		if s.parts[i].Cmp(s.bound) <= 0 && !s.isSkipped(s.nodes[i]) {
			s.at, s.mark = i, "on"
			s.told++
			return s.nodes[i]
		}
	}
	s.at, s.mark = -1, "end"
	return nil
}

func (s *shadow) shrink(r api.Rat) api.Errno {
	switch {
	case whole(r.Den).Sign() <= 0:
		return api.ErrRat
	case value(r).Sign() < 0 || value(r).Cmp(s.bound) > 0:
		return api.ErrArg
	}
	s.bound = value(r)
	return api.OK
}

func (s *shadow) skip() api.Errno {
	if !s.isAtNode() {
		return api.ErrState
	}
	s.mark = "skip"
	s.skipped = append(s.skipped, s.nodes[s.at])
	return api.OK
}

func (s *shadow) fork() *shadow {
	f := *s
	f.skipped = slices.Clone(s.skipped)
	return &f
}

// ratText is a rational's text as chapter 3 has it.
func ratText(r bigRat) string {
	if r.IsInt() {
		return r.Num().String()
	}
	return r.String()
}

func (s *shadow) save() string {
	words := []string{"walk", s.mark, strconv.Itoa(s.told), ratText(s.bound)}
	last := []api.Int{}
	if s.isAtNode() {
		last = s.nodes[s.at]
	}
	for _, l := range rows(s.root, last) {
		words = append(words, strconv.Itoa(len(l)))
		for _, x := range l {
			words = append(words, whole(x).String())
		}
	}
	return strings.Join(words, " ")
}

// wantLike holds all that a walker says of itself against its shadow.
func wantLike(t *testing.T, w *walk.Walker, s *shadow) {
	t.Helper()
	wantSave(t, w, s.save())
	if b := w.Bound(); !alikeRat(b, terms(s.bound)) {
		t.Errorf("Bound: %v instead of %v", b, s.bound)
	}
	if n := w.Told(); n != s.told {
		t.Errorf("Told: %d instead of %d", n, s.told)
	}
	if s.isAtNode() {
		wantPart(t, w, terms(s.parts[s.at]))
	} else {
		wantNoPart(t, w)
	}
}

// pair is a walker and its shadow.
type pair struct {
	w *walk.Walker
	s *shadow
}

func (p pair) next(t *testing.T) {
	t.Helper()
	got, some := p.w.Next()
	if sure := p.s.next(); !alikeRow(got, sure) || some != (len(sure) > 0) {
		t.Errorf("Next: %v, %v, instead of %v", told(got), some, told(sure))
	}
}

func (p pair) shrink(t *testing.T, r api.Rat) {
	t.Helper()
	wantErr(t, "Shrink", p.w.Shrink(r), p.s.shrink(r))
}

func (p pair) skip(t *testing.T) {
	t.Helper()
	wantErr(t, "Skip", p.w.Skip(), p.s.skip())
}

func (p pair) fork() pair { return pair{p.w.Fork(), p.s.fork()} }

// bound is one to which a walker may, or may not, shrink.
func (p pair) drawBound(r *rand.Rand) api.Rat {
	of := p.s.bound
	if n := len(p.s.parts); n > 0 {
		of = p.s.parts[r.Intn(n)]
	}
	switch r.Intn(14) {
	case 0:
		return unfitRats()[r.Intn(len(unfitRats()))]
	case 1:
		return terms(minus(new(big.Rat), little()))
	case 2:
		return terms(plus(p.s.bound, little()))
	case 3:
		return terms(times(p.s.bound, big.NewRat(3, 2)))
	case 4:
		return terms(p.s.bound)
	case 5:
		return terms(times(p.s.bound, big.NewRat(9, 10)))
	case 6:
		if of.Sign() > 0 {
			return terms(minus(of, little()))
		}
	case 7:
		of = p.s.bound
	}
	// Not in lowest terms, with limbs of 0 at their ends.
	by := big.NewInt(int64(1 + r.Intn(5)))
	out := api.Rat{Num: form(new(big.Int).Mul(of.Num(), by)), Den: form(new(big.Int).Mul(of.Denom(), by))}
	out.Num.Mag, out.Den.Mag = append(out.Num.Mag, 0), append(out.Den.Mag, 0, 0)
	return out
}

// pair gives a new walker and its shadow.
func (w world) pair(t *testing.T, root []api.Int) pair {
	t.Helper()
	return pair{made(t, w.tr, root), w.shadow(root)}
}

// toTheEnd asks for nodes until there is none any more.
func (p pair) toTheEnd(t *testing.T) {
	t.Helper()
	for p.s.mark != "end" {
		wantLike(t, p.w, p.s)
		p.next(t)
	}
	wantLike(t, p.w, p.s)
}

// play does what one may to some walkers of one tree, by chance; each stays as its shadow says, whatever is done to others.
func (w world) play(t *testing.T, r *rand.Rand, root []api.Int, steps, shrinks int) {
	t.Helper()
	all := []pair{w.pair(t, root)}
	all = append(all, all[0].fork(), all[0].fork())
	for range steps {
		at := r.Intn(len(all))
		p := all[at]
		switch k := r.Intn(20); {
		case k < shrinks:
			p.shrink(t, p.drawBound(r))
		case k < 6:
			p.skip(t)
		case k < 9:
			all[r.Intn(len(all))] = p.fork()
		case k < 11:
			all[at].w = loaded(t, w.tr, p.w.Save())
		default:
			p.next(t)
		}
		for _, p := range all {
			wantLike(t, p.w, p.s)
		}
	}
}

func TestPlays(t *testing.T) {
	r := rand.New(rand.NewSource(10))
	for _, tr := range smallTrees(t, 11) {
		w := worldOf(tr)
		for _, root := range roots(r, w.m) {
			for shrinks := range 3 {
				w.play(t, r, root, 40, 2*shrinks)
			}
		}
	}
}

// TestToTheEnd: without a hand laid on it a walker tells all nodes that begin with its root.
func TestToTheEnd(t *testing.T) {
	r := rand.New(rand.NewSource(12))
	some := 0
	for _, tr := range smallTrees(t, 13) {
		w := worldOf(tr)
		for _, root := range roots(r, w.m) {
			p := w.pair(t, root)
			p.toTheEnd(t)
			p.next(t)
			wantLike(t, p.w, p.s)
			if p.s.told > 3 {
				some++
			}
		}
	}
	if some < 50 {
		t.Errorf("%d that told much are few", some)
	}
}

// TestSkipAtEachNode: what is skipped, also twice, leaves out what is below it alone.
func TestSkipAtEachNode(t *testing.T) {
	for _, tr := range smallTrees(t, 14)[:20] {
		w := worldOf(tr)
		for at := range w.nodes {
			p := w.pair(t, nil)
			p.skip(t)
			for range at + 1 {
				p.next(t)
			}
			p.skip(t)
			p.skip(t)
			p.toTheEnd(t)
			p.skip(t)
		}
	}
}

// TestShrinkToEachPart: at each node the bound shrinks to that of another one, and just below it; so do the bounds of walkers that go on from there.
func TestShrinkToEachPart(t *testing.T) {
	for _, tr := range smallTrees(t, 15)[:20] {
		w := worldOf(tr)
		for at := 0; at <= len(w.nodes); at += 1 + len(w.nodes)/8 {
			p := w.pair(t, nil)
			for range at {
				p.next(t)
			}
			for _, part := range w.parts {
				for _, r := range []bigRat{part, minus(part, little())} {
					if r.Sign() < 0 {
						continue
					}
					f := p.fork()
					f.shrink(t, terms(r))
					f.fork().toTheEnd(t)
					f.toTheEnd(t)
				}
			}
		}
	}
}
