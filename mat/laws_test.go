package mat_test

import (
	"math/rand"
	"testing"

	"trammel/api"
	"trammel/mat"
	"trammel/zint"
)

// P4.7, by the package's own calls alone.

// sure and sureRows are what a call answers that is not to be refused.
func sure(t *testing.T) func(v []api.Int, e api.Errno) []api.Int {
	return func(v []api.Int, e api.Errno) []api.Int {
		t.Helper()
		wantErr(t, "a law", e, api.OK)
		return v
	}
}

func sureRows(t *testing.T) func(b [][]api.Int, e api.Errno) [][]api.Int {
	return func(b [][]api.Int, e api.Errno) [][]api.Int {
		t.Helper()
		wantErr(t, "a law", e, api.OK)
		return b
	}
}

func same(t *testing.T, what string, a, b [][]api.Int) {
	t.Helper()
	if !mat.Same(a, b) {
		t.Errorf("%s: %v and %v", what, a, b)
	}
}

func TestLaws(t *testing.T) {
	r := rand.New(rand.NewSource(5))
	for range 200 {
		height, width := 1+r.Intn(5), 1+r.Intn(5)
		b := drawRows(r, height, width)
		lawsOfCombine(t, b, drawVector(r, height), drawVector(r, height), draw(r, 3))
		lawOfGram(t, b, drawRows(r, height, height))
		lawsOfProducts(t, drawRows(r, 1+r.Intn(3), height), b, drawRows(r, width, 1+r.Intn(3)))
		lawsOfTurnAndText(t, b)
		v := drawVector(r, width)
		same(t, "Upright of v and of -v", rows(mat.Upright(v)), rows(mat.Upright(mat.Times(zint.Of(-1), v))))
	}
}

func lawsOfCombine(t *testing.T, b [][]api.Int, x, y []api.Int, k api.Int) {
	ok := sure(t)
	one, other := ok(mat.Combine(x, b)), ok(mat.Combine(y, b))
	same(t, "Combine of a sum", rows(ok(mat.Combine(ok(mat.Plus(x, y)), b))), rows(ok(mat.Plus(one, other))))
	same(t, "Combine of a difference", rows(ok(mat.Combine(ok(mat.Minus(x, y)), b))), rows(ok(mat.Minus(one, other))))
	same(t, "Combine of a multiple", rows(ok(mat.Combine(mat.Times(k, x), b))), rows(mat.Times(k, one)))
}

func lawOfGram(t *testing.T, b, u [][]api.Int) {
	ok := sureRows(t)
	left := ok(mat.Gram(ok(mat.Product(u, b))))
	right := ok(mat.Product(ok(mat.Product(u, ok(mat.Gram(b)))), ok(mat.Turn(u))))
	same(t, "Gram of a product", left, right)
	same(t, "Gram", ok(mat.Gram(b)), ok(mat.Product(b, ok(mat.Turn(b)))))
}

func lawsOfProducts(t *testing.T, a, b, c [][]api.Int) {
	ok := sureRows(t)
	same(t, "a b c", ok(mat.Product(ok(mat.Product(a, b)), c)), ok(mat.Product(a, ok(mat.Product(b, c)))))
	same(t, "a b turned", ok(mat.Turn(ok(mat.Product(a, b)))), ok(mat.Product(ok(mat.Turn(b)), ok(mat.Turn(a)))))
	same(t, "1 b", ok(mat.Product(ok(mat.Unit(len(b))), b)), b)
	same(t, "b 1", ok(mat.Product(b, ok(mat.Unit(len(b[0]))))), b)
}

func lawsOfTurnAndText(t *testing.T, b [][]api.Int) {
	ok := sureRows(t)
	same(t, "turned twice", ok(mat.Turn(ok(mat.Turn(b)))), b)
	back, at, e := mat.Read(mat.Text(b))
	if at != 0 || e != api.OK {
		t.Errorf("Read of Text: %d %d", at, e)
	}
	same(t, "Read of Text", back, b)
	row, at, e := mat.ReadVector(mat.TextVector(b[0]))
	if at != 0 || e != api.OK {
		t.Errorf("ReadVector of TextVector: %d %d", at, e)
	}
	same(t, "ReadVector of TextVector", rows(row), b[:1])
}

// TestOrderIsAnOrder: of any three, with short lists of few numbers so that they often agree.
func TestOrderIsAnOrder(t *testing.T) {
	all := rows(nil)
	for i := 0; len(all[i]) < 3; i++ {
		for n := int64(-1); n <= 1; n++ {
			all = append(all, append(all[i][:len(all[i]):len(all[i])], zint.Of(n)))
		}
	}
	for i, u := range all {
		for j, v := range all {
			n := mat.Order(u, v)
			if n != -mat.Order(v, u) || (n == 0) != (i == j) {
				t.Errorf("Order(%v, %v): %d", u, v, n)
			}
			for _, w := range all {
				if n < 0 && mat.Order(v, w) < 0 && mat.Order(u, w) >= 0 {
					t.Errorf("%v, %v, %v are in no order", u, v, w)
				}
			}
		}
	}
}
