package walk_test

import (
	"math/rand"
	"reflect"
	"runtime/debug"
	"slices"
	"testing"
	"unsafe"

	"trammel/api"
	"trammel/walk"
)

// P4: a walker has its own memory, and so has each answer.

// span is the memory of a list, its room with it, or of what a pointer leads to.
type span struct{ from, to uintptr }

func spanOf[T any](l []T) span {
	from := uintptr(unsafe.Pointer(unsafe.SliceData(l)))
	return span{from, from + unsafe.Sizeof(*new(T))*uintptr(cap(l))}
}

// spans is the memory of rows: of each, and of each number's limbs.
func spans(l [][]api.Int) []span {
	out := []span{}
	for _, row := range l {
		out = append(out, spanOf(row))
		for _, a := range row {
			out = append(out, spanOf(a.Mag))
		}
	}
	return out
}

func (a answers) spans() []span {
	return append(spans(append(slices.Clone(a.rows), []api.Int{a.rat.Num, a.rat.Den})), spanOf(a.rows))
}

func (g given) spans() []span {
	out := []span{spanOf(g.tr.T), spanOf(g.tr.G.L)}
	for _, l := range g.lists() {
		out = append(out, spans([][]api.Int{l[:cap(l)]})...)
	}
	return out
}

// spansWithin is all memory to which a value leads.
func spansWithin(v reflect.Value) []span {
	out := []span{}
	switch v.Kind() {
	case reflect.Pointer:
		if !v.IsNil() {
			out = append(out, span{v.Pointer(), v.Pointer() + v.Type().Elem().Size()})
			out = append(out, spansWithin(v.Elem())...)
		}
	case reflect.Slice:
		out = append(out, span{v.Pointer(), v.Pointer() + v.Type().Elem().Size()*uintptr(v.Cap())})
		for i := range v.Len() {
			out = append(out, spansWithin(v.Index(i))...)
		}
	case reflect.Array:
		for i := range v.Len() {
			out = append(out, spansWithin(v.Index(i))...)
		}
	case reflect.Struct:
		for i := range v.NumField() {
			out = append(out, spansWithin(v.Field(i))...)
		}
	}
	return out
}

func spansOf(w *walk.Walker) []span { return spansWithin(reflect.ValueOf(w)) }

// wantApart: no memory of one is the other's.
func wantApart(t *testing.T, what string, a, b []span) {
	t.Helper()
	for _, s := range a {
		for _, o := range b {
			if s.from < s.to && o.from < o.to && s.from < o.to && o.from < s.to {
				t.Errorf("%s share memory", what)
				return
			}
		}
	}
}

// wantAllApart: no two of these are one memory.
func wantAllApart(t *testing.T, what string, all []span) {
	t.Helper()
	for i := range all {
		wantApart(t, what, all[i:i+1], all[i+1:])
	}
}

// held keeps memory that was given up from coming back, till what it answers is called.
func held() func() {
	percent := debug.SetGCPercent(-1)
	return func() { debug.SetGCPercent(percent) }
}

func TestAnswersAreNew(t *testing.T) {
	everywhere(func(name string, call func(g given) answers, g given) {
		defer held()()
		out := slices.Concat(call(g).spans(), call(g).spans())
		wantAllApart(t, name+": two lists", out)
		wantApart(t, name+": an answer and an argument", out, g.spans())
	})
}

// TestWalkersHaveTheirOwnMemory: they share none with what was handed in, with one another, with what they answer.
func TestWalkersHaveTheirOwnMemory(t *testing.T) {
	for _, g := range everything() {
		g = roomy(g)
		w, e := walk.New(g.tr, g.root)
		if e != api.OK {
			continue
		}
		release := held()
		out := []span{}
		tell := func(l ...[]api.Int) { out = append(out, spans(l)...) }
		for range g.steps {
			node, _ := w.Next()
			tell(node)
		}
		w.Shrink(g.r)
		node, _ := w.Next()
		part, _ := w.Part()
		again, _ := w.Part()
		bound := w.Bound()
		tell(node, []api.Int{part.Num, part.Den, again.Num, again.Den}, []api.Int{bound.Num, bound.Den})
		s := w.Save()
		other, _, _ := walk.Load(g.tr, s)
		fork := w.Fork()
		wantAllApart(t, "two answers", out)
		for _, one := range []*walk.Walker{w, other, fork} {
			wantApart(t, "a walker and an argument", spansOf(one), g.spans())
			wantApart(t, "a walker and an answer", spansOf(one), out)
		}
		wantApart(t, "a walker and its fork", spansOf(w), spansOf(fork))
		wantApart(t, "a walker and one that was loaded", spansOf(w), spansOf(other))
		release()
	}
}

// scrub writes over numbers.
func scrub(l ...[]api.Int) {
	for _, row := range l {
		for i, a := range row {
			for k := range a.Mag {
				a.Mag[k] ^= 0x5a5a
			}
			row[i].Neg = !row[i].Neg
		}
	}
}

// TestNothingIsKept: whoever writes over what was handed in, or over an answer, changes no walker.
func TestNothingIsKept(t *testing.T) {
	r := rand.New(rand.NewSource(60))
	for _, tr := range smallTrees(t, 61) {
		w := worldOf(tr)
		root := []api.Int{}
		if len(w.nodes) > 0 && r.Intn(2) == 0 {
			root = w.nodes[r.Intn(len(w.nodes))][:1]
		}
		g := roomy(given{tr: tr, root: root})
		p := pair{made(t, g.tr, g.root), w.shadow(g.root)}
		p.next(t)
		scrub(g.lists()...)
		for range 6 {
			node, _ := p.w.Next()
			p.s.next()
			part, _ := p.w.Part()
			bound := p.w.Bound()
			scrub(node, []api.Int{part.Num, part.Den, bound.Num, bound.Den})
			wantLike(t, p.w, p.s)
			less := roomyRat(p.drawBound(r))
			p.shrink(t, less)
			scrub([]api.Int{less.Num, less.Den})
			wantLike(t, p.w, p.s)
		}
		p.toTheEnd(t)
	}
}
