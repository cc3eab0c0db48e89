package euclid_test

import (
	"math/big"
	"math/rand"
	"testing"

	"trammel/euclid"
)

func value(a []uint32) *big.Int {
	n := new(big.Int)
	for i := range a {
		n.Lsh(n, 32)
		n.Or(n, big.NewInt(int64(a[len(a)-1-i])))
	}
	return n
}

// draw gives n limbs, half of them at their ends, the last one not 0.
func draw(r *rand.Rand, n int) []uint32 {
	out := make([]uint32, n)
	for i := range out {
		out[i] = r.Uint32()
		if r.Intn(2) == 0 {
			out[i] = []uint32{0, 1, 1 << 31, 1<<32 - 1}[r.Intn(4)]
		}
	}
	out[n-1] |= 1 << r.Intn(32)
	return out
}

// TestSteps goes to the end of many rows beside a plain one.
func TestSteps(t *testing.T) {
	r := rand.New(rand.NewSource(1))
	looks := 0
	for range 2000 {
		n := euclid.Least + r.Intn(8)
		a, b := draw(r, n), draw(r, n-r.Intn(min(2, n-euclid.Least+1)))
		if value(a).Cmp(value(b)) < 0 {
			a, b = b, a
		}
		for len(b) >= euclid.Least {
			s, ok := euclid.Look(a, b)
			if !ok {
				break
			}
			looks++
			a, b = checkSteps(t, s, a, b)
		}
	}
	if looks < 2000 {
		t.Errorf("only %d looks that told a quotient", looks)
	}
}

// checkSteps goes on by the places that s says, one by one, with the library's numbers.
func checkSteps(t *testing.T, s euclid.Steps, a, b []uint32) ([]uint32, []uint32) {
	t.Helper()
	for _, n := range []uint64{s.U0, s.V0, s.U1, s.V1} {
		if n>>32 != 0 {
			t.Fatalf("a factor of %v is no limb", s)
		}
	}
	c, d := s.Rests(a, b)
	x, y := s.Shares([]uint32{7, 1<<32 - 1}, []uint32{1<<32 - 1, 5, 1<<32 - 1})
	p, q := value(a), value(b)
	u, v := value([]uint32{7, 1<<32 - 1}), value([]uint32{1<<32 - 1, 5, 1<<32 - 1})
	places := 0
	for p.Cmp(value(c)) != 0 {
		quotient, rest := new(big.Int).QuoRem(p, q, new(big.Int))
		p, q = q, rest
		u, v = v, new(big.Int).Add(u, quotient.Mul(quotient, v))
		places++
		if q.Sign() == 0 {
			t.Fatalf("Rests of %v, %v: %v is not in the row", a, b, c)
		}
	}
	if q.Cmp(value(d)) != 0 || u.Cmp(value(x)) != 0 || v.Cmp(value(y)) != 0 || s.Odd != (places%2 == 1) {
		t.Fatalf("steps of %v, %v: %v", a, b, s)
	}
	for _, l := range [][]uint32{c, d, x, y} {
		if len(l) > 0 && l[len(l)-1] == 0 {
			t.Fatalf("a nought at the end of %v", l)
		}
	}
	return c, d
}

// TestSharesAtTheirEnds: the greatest factors and limbs need a limb and a bit more.
func TestSharesAtTheirEnds(t *testing.T) {
	const top = 1<<32 - 1
	s := euclid.Steps{U0: top, V0: top, U1: 1, V1: 1}
	x, y := s.Shares([]uint32{top, top}, []uint32{top, top})
	sum := new(big.Int).Lsh(value([]uint32{top, top}), 1)
	if value(y).Cmp(sum) != 0 || value(x).Cmp(sum.Mul(sum, big.NewInt(top))) != 0 {
		t.Errorf("Shares: %v, %v", x, y)
	}
}
