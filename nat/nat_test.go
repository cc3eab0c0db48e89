package nat_test

import (
	"slices"
	"testing"

	"trammel/nat"
)

// NA1.

func TestNorm(t *testing.T) {
	for _, c := range []struct{ a, out []uint32 }{
		{nil, nil},
		{[]uint32{}, nil},
		{[]uint32{0}, nil},
		{[]uint32{0, 0, 0}, nil},
		{[]uint32{1}, []uint32{1}},
		{[]uint32{0, 1}, []uint32{0, 1}},
		{[]uint32{1, 0}, []uint32{1}},
		{[]uint32{0, 0, top, 0, 0}, []uint32{0, 0, top}},
	} {
		if out := nat.Norm(c.a); !slices.Equal(out, c.out) {
			t.Errorf("Norm(%v): %v", c.a, out)
		}
	}
	for _, a := range samples() {
		want(t, "Norm", nat.Norm(a), value(a))
	}
}

func TestCmp(t *testing.T) {
	for _, c := range []struct {
		a, b []uint32
		out  int
	}{
		{nil, nil, 0},
		{nil, []uint32{0, 0}, 0},
		{nil, []uint32{1}, -1},
		{[]uint32{5, 0, 0}, []uint32{5}, 0},
		{[]uint32{5, 0, 0}, []uint32{6}, -1},
		{[]uint32{top}, []uint32{0, 1}, -1},
		{[]uint32{1, 2}, []uint32{2, 1}, 1},
		{[]uint32{3, 7}, []uint32{2, 7}, 1},
		{[]uint32{0, 1 << 31}, []uint32{0, 1}, 1},
	} {
		if out := nat.Cmp(c.a, c.b); out != c.out {
			t.Errorf("Cmp(%v, %v): %d", c.a, c.b, out)
		}
	}
	pairs(func(a, b []uint32) {
		if out := nat.Cmp(a, b); out != value(a).Cmp(value(b)) {
			t.Errorf("Cmp(%v, %v): %d", a, b, out)
		}
	})
}

func TestBits(t *testing.T) {
	for _, c := range []struct {
		a   []uint32
		out int
	}{
		{nil, 0},
		{[]uint32{0, 0}, 0},
		{[]uint32{1}, 1},
		{[]uint32{2}, 2},
		{[]uint32{3}, 2},
		{[]uint32{4, 0}, 3},
		{[]uint32{top}, 32},
		{[]uint32{0, 1}, 33},
		{[]uint32{0, 0, 1 << 31, 0}, 96},
	} {
		if out := nat.Bits(c.a); out != c.out {
			t.Errorf("Bits(%v): %d", c.a, out)
		}
	}
	for _, a := range samples() {
		if out := nat.Bits(a); out != value(a).BitLen() {
			t.Errorf("Bits(%v): %d", a, out)
		}
	}
}
