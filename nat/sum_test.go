package nat_test

import (
	"math/big"
	"math/rand"
	"testing"

	"trammel/api"
	"trammel/nat"
)

// NA2.

func TestAddAndMul(t *testing.T) {
	pairs(func(a, b []uint32) {
		x, y := value(a), value(b)
		want(t, "Add", nat.Add(a, b), new(big.Int).Add(x, y))
		want(t, "Mul", nat.Mul(a, b), new(big.Int).Mul(x, y))
	})
}

func TestAddCarriesToTheEnd(t *testing.T) {
	for n := range 5 {
		a := make([]uint32, n)
		for i := range a {
			a[i] = top
		}
		want(t, "Add", nat.Add(a, []uint32{1}), new(big.Int).Lsh(big.NewInt(1), uint(32*n)))
		want(t, "Add", nat.Add([]uint32{1, 0}, a), new(big.Int).Lsh(big.NewInt(1), uint(32*n)))
	}
}

func TestSub(t *testing.T) {
	pairs(func(a, b []uint32) {
		x, y := value(a), value(b)
		out, e := nat.Sub(a, b)
		if x.Cmp(y) < 0 {
			wantErr(t, "Sub", e, api.ErrBelow)
			none(t, "Sub", out)
			return
		}
		wantErr(t, "Sub", e, api.OK)
		want(t, "Sub", out, new(big.Int).Sub(x, y))
	})
}

func TestDiv(t *testing.T) {
	pairs(func(a, b []uint32) { checkDiv(t, a, b) })
}

func TestDivByNought(t *testing.T) {
	for _, b := range [][]uint32{nil, {}, {0}, {0, 0, 0}} {
		for _, a := range [][]uint32{nil, {0}, {7}, {1, 2, 3}} {
			q, r, e := nat.Div(a, b)
			wantErr(t, "Div", e, api.ErrDiv)
			none(t, "Div", q, r)
		}
	}
}

// TestDivAtTheEdges meets the digits that are guessed one too high: they are rare at other limbs.
func TestDivAtTheEdges(t *testing.T) {
	checkDiv(t, []uint32{3, 0, 1 << 31}, []uint32{1, 0, 1 << 29})
	checkDiv(t, []uint32{0, 0, 1 << 31, 1<<31 - 1}, []uint32{1, 0, 1 << 31})
	few := []uint32{0, 1, 1<<31 - 1, 1 << 31, top - 1, top}
	for _, b0 := range few {
		for _, b1 := range few {
			for _, b2 := range []uint32{1, 1 << 31, top} {
				b := []uint32{b0, b1, b2}
				for i := range 6 * 6 * 6 {
					checkDiv(t, []uint32{few[i%6], few[i/6%6], 0, few[i/36], b2, b2 - 1}, b)
				}
			}
		}
	}
}

func TestDivOfLongNumbers(t *testing.T) {
	r := rand.New(rand.NewSource(2))
	for range 200 {
		checkDiv(t, draw(r, r.Intn(60)), draw(r, 1+r.Intn(30)))
	}
}

func checkDiv(t *testing.T, a, b []uint32) {
	t.Helper()
	q, r, e := nat.Div(a, b)
	x, y := value(a), value(b)
	if y.Sign() == 0 {
		wantErr(t, "Div", e, api.ErrDiv)
		none(t, "Div", q, r)
		return
	}
	wantErr(t, "Div", e, api.OK)
	rest := new(big.Int)
	x.QuoRem(x, y, rest)
	want(t, "Div, the quotient", q, x)
	want(t, "Div, the rest", r, rest)
}
