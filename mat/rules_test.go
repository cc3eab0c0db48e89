package mat_test

import (
	"reflect"
	"slices"
	"testing"
	"unsafe"

	"trammel/api"
	"trammel/mat"
)

// The rules that hold everywhere, P1 to P4, at every call.

// given is what calls are handed.
type given struct {
	a, b [][]api.Int
	u, v []api.Int
	k    api.Int
}

// answers is what a call answers: its numbers as rows, and all else beside them.
type answers struct {
	rows   [][]api.Int
	counts []int
	text   string
	e      api.Errno
}

func number(n api.Int, e api.Errno) answers   { return vector([]api.Int{n}, e) }
func vector(v []api.Int, e api.Errno) answers { return answers{rows: rows(v), e: e} }
func matrix(b [][]api.Int, e api.Errno) answers {
	return answers{rows: b, e: e}
}
func counts(l ...int) answers { return answers{counts: l} }
func count(is bool) answers {
	if is {
		return counts(1)
	}
	return counts(0)
}
func shape(height, width int, e api.Errno) answers {
	return answers{counts: []int{height, width}, e: e}
}

func calls() map[string]func(g given) answers {
	return map[string]func(g given) answers{
		"Shape":      func(g given) answers { return shape(mat.Shape(g.a)) },
		"Bits":       func(g given) answers { return counts(mat.Bits(g.a)) },
		"Dot":        func(g given) answers { return number(mat.Dot(g.u, g.v)) },
		"Norm":       func(g given) answers { return number(mat.Norm(g.u), 0) },
		"Plus":       func(g given) answers { return vector(mat.Plus(g.u, g.v)) },
		"Minus":      func(g given) answers { return vector(mat.Minus(g.u, g.v)) },
		"Times":      func(g given) answers { return vector(mat.Times(g.k, g.u), 0) },
		"Combine":    func(g given) answers { return vector(mat.Combine(g.u, g.a)) },
		"Product":    func(g given) answers { return matrix(mat.Product(g.a, g.b)) },
		"Turn":       func(g given) answers { return matrix(mat.Turn(g.a)) },
		"Gram":       func(g given) answers { return matrix(mat.Gram(g.a)) },
		"Unit":       func(g given) answers { return matrix(mat.Unit(len(g.u))) },
		"Same":       func(g given) answers { return count(mat.Same(g.a, g.b)) },
		"Order":      func(g given) answers { return counts(mat.Order(g.u, g.v)) },
		"Lead":       func(g given) answers { return counts(mat.Lead(g.u)) },
		"Upright":    func(g given) answers { return vector(mat.Upright(g.u), 0) },
		"Form":       func(g given) answers { return matrix(mat.Form(g.a), 0) },
		"Text":       func(g given) answers { return answers{text: mat.Text(g.a)} },
		"TextVector": func(g given) answers { return answers{text: mat.TextVector(g.u)} },
	}
}

// everywhere calls f at every call with much that may be handed in, made anew each time.
func everywhere(f func(name string, call func(g given) answers, g given)) {
	as := append(matrices(), shapeless()...)
	us := vectors()
	for name, call := range calls() {
		for i := range as {
			for j := range as {
				u, v := us[(i+2*j)%len(us)], us[(3*i+j)%len(us)]
				f(name, call, roomy(given{a: as[i], b: as[j], u: u, v: v, k: num(true, 0, 3, 0)}))
				// Vectors that go with the matrix, and with each other.
				u = make([]api.Int, len(as[i]))
				for n := range u {
					u[n] = num(n%2 == 0, uint32(n), 1, 0)
				}
				f(name, call, roomy(given{a: as[i], b: as[i], u: u, v: u, k: num(false, 7)}))
			}
		}
	}
}

// behind is a list with room behind its end that a call must leave as it is.
func behind[T any](l []T, rest ...T) []T {
	return slices.Concat(l, rest)[:len(l)]
}

func roomyNumber(a api.Int) api.Int {
	return api.Int{Neg: a.Neg, Mag: behind(a.Mag, 0xdead, 0xbeef)}
}

func roomyVector(v []api.Int) []api.Int {
	out := []api.Int{}
	for _, a := range v {
		out = append(out, roomyNumber(a))
	}
	return behind(out, num(true, 0xfeed), num(false, 0, 0))
}

func roomyRows(b [][]api.Int) [][]api.Int {
	out := [][]api.Int{}
	for _, row := range b {
		out = append(out, roomyVector(row))
	}
	return behind(out, vec(1, 2, 3))
}

func roomy(g given) given {
	return given{roomyRows(g.a), roomyRows(g.b), roomyVector(g.u), roomyVector(g.v), roomyNumber(g.k)}
}

// whole is a list with the room behind its end, all of it new.
func whole(b [][]api.Int) [][]api.Int {
	out := slices.Clone(b[:cap(b)])
	for i, row := range out {
		out[i] = slices.Clone(row[:cap(row)])
		for j, a := range out[i] {
			out[i][j].Mag = slices.Clone(a.Mag[:cap(a.Mag)])
		}
	}
	return out
}

func (g given) lists() [][]api.Int {
	return slices.Concat(whole(g.a), whole(g.b), whole(rows(g.u, g.v, []api.Int{g.k})))
}

func TestArgumentsStay(t *testing.T) {
	everywhere(func(name string, call func(g given) answers, g given) {
		before := g.lists()
		call(g)
		if !reflect.DeepEqual(before, g.lists()) {
			t.Errorf("%s changed an argument: %v", name, before)
		}
	})
}

// span is the memory of a list, its room with it.
type span struct{ from, to uintptr }

func spanOf[T any](l []T) span {
	from := uintptr(unsafe.Pointer(unsafe.SliceData(l)))
	return span{from, from + uintptr(cap(l))*unsafe.Sizeof(*new(T))}
}

// spans is the memory of all lists of a matrix, those in the room behind an end too.
func spans(b [][]api.Int) []span {
	out := []span{spanOf(b)}
	for _, row := range b[:cap(b)] {
		out = append(out, spanOf(row))
		for _, a := range row[:cap(row)] {
			out = append(out, spanOf(a.Mag))
		}
	}
	return out
}

// apart looks whether a fresh list shares memory with another one, or with an old one.
func apart(t *testing.T, name string, fresh, old []span) {
	t.Helper()
	for i, s := range fresh {
		for _, o := range slices.Concat(fresh[:i], old) {
			if s.from < s.to && o.from < o.to && s.from < o.to && o.from < s.to {
				t.Errorf("%s: two lists share memory", name)
			}
		}
	}
}

func TestAnswersAreNew(t *testing.T) {
	everywhere(func(name string, call func(g given) answers, g given) {
		out := call(g)
		old := slices.Concat(spans(g.a), spans(g.b), spans(rows(g.u, g.v, []api.Int{g.k})))
		apart(t, name, spans(out.rows), old)
	})
	for _, s := range []string{"1 2; 3 4", "0 0;0", ";;", "1 2 3 4 5; 4294967296; -1 0"} {
		one, _, _ := mat.Read(s)
		other, _, _ := mat.Read(s)
		apart(t, "Read", spans(one), spans(other))
		v, _, _ := mat.ReadVector(mat.TextVector(one[0]))
		apart(t, "ReadVector", spans(rows(v)), spans(one))
	}
	one, _ := mat.Unit(5)
	other, _ := mat.Unit(5)
	apart(t, "Unit", spans(one), spans(other))
}

// TestRowsDoNotGrowIntoEachOther: rows lie in one list, and yet one may append to each.
func TestRowsDoNotGrowIntoEachOther(t *testing.T) {
	b, _, _ := mat.Read("1 2; ; 3; 4 5 6")
	for i := range b {
		b[i] = append(b[i], num(false, uint32(10+i)))
	}
	if s := mat.Text(b); s != "1 2 10; 11; 3 12; 4 5 6 13" {
		t.Errorf("appended: %s", s)
	}
}

// TestZeroBesideAnError: nothing is answered beside an error.
func TestZeroBesideAnError(t *testing.T) {
	refused := 0
	everywhere(func(name string, call func(g given) answers, g given) {
		out := call(g)
		if out.e == api.OK {
			return
		}
		refused++
		for _, row := range out.rows {
			for _, a := range row {
				if a.Neg || len(a.Mag) != 0 || name != "Dot" {
					t.Errorf("%s: %v beside an error", name, out.rows)
				}
			}
		}
		if out.text != "" || slices.ContainsFunc(out.counts, func(n int) bool { return n != 0 }) {
			t.Errorf("%s: %v %q beside an error", name, out.counts, out.text)
		}
	})
	if refused == 0 {
		t.Error("no call was refused")
	}
}

// alike: the same answers, field by field, but for nil and empty lists.
func alike(x, y answers) bool {
	numbers := func(a, b api.Int) bool { return a.Neg == b.Neg && slices.Equal(a.Mag, b.Mag) }
	vectors := func(u, v []api.Int) bool { return slices.EqualFunc(u, v, numbers) }
	return slices.EqualFunc(x.rows, y.rows, vectors) && slices.Equal(x.counts, y.counts) && x.text == y.text && x.e == y.e
}

// changed is all that was handed in, each number by its other fields.
func (g given) changed(f func(a api.Int) api.Int) given {
	list := func(v []api.Int) []api.Int {
		var out []api.Int
		for _, a := range v {
			out = append(out, f(a))
		}
		return out
	}
	table := func(b [][]api.Int) [][]api.Int {
		var out [][]api.Int
		for _, row := range b {
			out = append(out, list(row))
		}
		return out
	}
	return given{table(g.a), table(g.b), list(g.u), list(g.v), f(g.k)}
}

// TestFieldsCountForNothing gives each number in one form, and with limbs of 0 at its end and 0 with a minus. Empty lists are nil there.
func TestFieldsCountForNothing(t *testing.T) {
	tight := func(a api.Int) api.Int {
		for len(a.Mag) > 0 && a.Mag[len(a.Mag)-1] == 0 {
			a.Mag = a.Mag[:len(a.Mag)-1]
		}
		return api.Int{Neg: a.Neg && len(a.Mag) > 0, Mag: slices.Clone(a.Mag)}
	}
	loose := func(a api.Int) api.Int {
		return api.Int{Neg: a.Neg || big1(a).Sign() == 0, Mag: slices.Concat(a.Mag, []uint32{0, 0})}
	}
	everywhere(func(name string, call func(g given) answers, g given) {
		out := call(g)
		if !alike(out, call(g.changed(tight))) || !alike(out, call(g.changed(loose))) {
			t.Errorf("%s: other fields, other answers: %v", name, g)
		}
	})
}

// TestOneListInAllPlaces: what is handed in may be one list in all its places.
func TestOneListInAllPlaces(t *testing.T) {
	for name, call := range calls() {
		for _, v := range vectors() {
			b := slices.Repeat(rows(v), len(v))
			shared := given{a: b, b: b, u: v, v: v, k: num(true, 2)}
			if !alike(call(shared), call(roomy(shared))) {
				t.Errorf("%s of %v in all places: %v", name, v, call(shared))
			}
		}
	}
}
