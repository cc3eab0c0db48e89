package walk_test

import (
	"math/big"
	"math/rand"
	"slices"
	"testing"

	"trammel/api"
	"trammel/tree"
	"trammel/walk"
)

// P12.1, held against zig-zag order.

// centres are some: whole, halves, a little beside both, long.
func centres(r *rand.Rand) []api.Rat {
	out := []api.Rat{q(0, 1), q(0, 9), {Num: num(true, 0), Den: num(false, 3, 0)}, q(6, 3), q(-4, 2), q(6, 4), q(-3, 6), q(-7, 2)}
	for _, c := range out[:8] {
		out = append(out, terms(plus(value(c), little())), terms(minus(value(c), little())))
	}
	for range 40 {
		out = append(out, q(int64(r.Intn(200)-100), int64(r.Intn(9)+1)), api.Rat{Num: draw(r, 4), Den: above(r, 3)})
	}
	return append(out, api.Rat{Num: power(500), Den: small(1)}, api.Rat{Num: power(500), Den: small(3)})
}

func wantBehind(t *testing.T, c api.Rat, x api.Int, n bigInt) {
	t.Helper()
	if y, e := walk.Behind(c, x); !alike(y, form(n)) || e != api.OK {
		t.Errorf("Behind(%v, %v): %v, error %d, instead of %v", value(c), whole(x), whole(y), e, n)
	}
}

func TestBehindIsTheNextOne(t *testing.T) {
	for _, c := range centres(rand.New(rand.NewSource(1))) {
		all := about(value(c), 15)
		for k, n := range all[1:] {
			wantBehind(t, c, form(all[k]), n)
			nth, _ := tree.Nth(c, k)
			wantBehind(t, c, nth, n)
		}
	}
}

// next is the first one, in zig-zag order about c, of the numbers behind x: only those beside it, and those beside what is as far off on the other side, can be it.
func next(c bigRat, x bigInt) bigInt {
	other := floor(minus(plus(c, c), new(big.Rat).SetInt(x)))
	behind := []seen{}
	for d := int64(-2); d <= 2; d++ {
		for _, n := range []bigInt{x, other} {
			if s := seenFrom(c, new(big.Int).Add(n, big.NewInt(d))); zigzag(seenFrom(c, x), s) < 0 {
				behind = append(behind, s)
			}
		}
	}
	return slices.MinFunc(behind, zigzag).n
}

func TestBehindFarOff(t *testing.T) {
	r := rand.New(rand.NewSource(2))
	for _, c := range centres(r) {
		for range 20 {
			x := draw(r, 1+r.Intn(20))
			wantBehind(t, c, x, next(value(c), whole(x)))
		}
		wantBehind(t, c, num(true, 0, 0), next(value(c), big.NewInt(0)))
	}
}

func TestBehindRefuses(t *testing.T) {
	for _, c := range unfitRats() {
		for _, x := range []api.Int{{}, small(1), num(true, 0, 5)} {
			if y, e := walk.Behind(c, x); !isZero(y) || e != api.ErrRat {
				t.Errorf("Behind(%v, %v): %v, error %d", c, whole(x), y, e)
			}
		}
	}
}
