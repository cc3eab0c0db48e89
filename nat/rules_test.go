package nat_test

import (
	"math"
	"slices"
	"testing"

	"trammel/nat"
)

// The rules that hold everywhere, P1 to P4, at every call of nat.

// calls is each call that takes limbs, with the lists that it answers.
func calls() map[string]func(a, b []uint32) [][]uint32 {
	one := func(l []uint32) [][]uint32 { return [][]uint32{l} }
	return map[string]func(a, b []uint32) [][]uint32{
		"Norm": func(a, b []uint32) [][]uint32 { return one(nat.Norm(a)) },
		"Add":  func(a, b []uint32) [][]uint32 { return one(nat.Add(a, b)) },
		"Mul":  func(a, b []uint32) [][]uint32 { return one(nat.Mul(a, b)) },
		"Gcd":  func(a, b []uint32) [][]uint32 { return one(nat.Gcd(a, b)) },
		"Root": func(a, b []uint32) [][]uint32 { return one(nat.Root(a)) },
		"Cmp":  func(a, b []uint32) [][]uint32 { return one([]uint32{uint32(nat.Cmp(a, b))}) },
		"Bits": func(a, b []uint32) [][]uint32 { return one([]uint32{uint32(nat.Bits(a))}) },
		"Text": func(a, b []uint32) [][]uint32 { return one([]uint32{uint32(len(nat.Text(a)))}) },
		"Sub":  func(a, b []uint32) [][]uint32 { l, e := nat.Sub(a, b); return [][]uint32{l, {uint32(e)}} },
		"Div":  func(a, b []uint32) [][]uint32 { q, r, e := nat.Div(a, b); return [][]uint32{q, r, {uint32(e)}} },
		"Shl 0": func(a, b []uint32) [][]uint32 {
			l, e := nat.Shl(a, 0)
			return [][]uint32{l, {uint32(e)}}
		},
		"Shl 33": func(a, b []uint32) [][]uint32 {
			l, e := nat.Shl(a, 33)
			return [][]uint32{l, {uint32(e)}}
		},
		"Shr 0": func(a, b []uint32) [][]uint32 {
			l, e := nat.Shr(a, 0)
			return [][]uint32{l, {uint32(e)}}
		},
		"Shr 33": func(a, b []uint32) [][]uint32 {
			l, e := nat.Shr(a, 33)
			return [][]uint32{l, {uint32(e)}}
		},
		"Pow 1": func(a, b []uint32) [][]uint32 {
			l, e := nat.Pow(a, 1)
			return [][]uint32{l, {uint32(e)}}
		},
		"Pow 3": func(a, b []uint32) [][]uint32 {
			l, e := nat.Pow(a, 3)
			return [][]uint32{l, {uint32(e)}}
		},
	}
}

// roomy is a with room behind its end that a call must leave as it is.
func roomy(a []uint32) []uint32 {
	all := append(slices.Clone(a), 0xdead, 0xbeef, 0xfeed)
	return all[:len(a)]
}

func whole(a []uint32) []uint32 { return a[:cap(a)] }

func TestArgumentsStay(t *testing.T) {
	for name, call := range calls() {
		pairs(func(a, b []uint32) {
			x, y := roomy(a), roomy(b)
			before, before2 := slices.Clone(whole(x)), slices.Clone(whole(y))
			call(x, y)
			if !slices.Equal(whole(x), before) || !slices.Equal(whole(y), before2) {
				t.Errorf("%s changed an argument: %v, %v", name, a, b)
			}
		})
	}
}

// TestAnswersAreNew writes over each answer, its spare room too, and looks whether anything else has changed.
func TestAnswersAreNew(t *testing.T) {
	for name, call := range calls() {
		pairs(func(a, b []uint32) {
			x, y := roomy(a), roomy(b)
			all := append(call(x, y), x, y)
			for i := range len(all) - 2 {
				var before [][]uint32
				for _, l := range all {
					before = append(before, slices.Clone(whole(l)))
				}
				for j := range whole(all[i]) {
					whole(all[i])[j] ^= 0x5a5a5a5a
				}
				for k := range all {
					if k != i && !slices.Equal(whole(all[k]), before[k]) {
						t.Errorf("%s: two lists share memory: %v, %v", name, a, b)
					}
				}
			}
		})
	}
}

func TestNoughtsCountForNothing(t *testing.T) {
	for name, call := range calls() {
		pairs(func(a, b []uint32) {
			out := call(slices.Concat(a, []uint32{0, 0}), slices.Concat(b, []uint32{0}))
			for i, l := range call(nat.Norm(a), nat.Norm(b)) {
				if !slices.Equal(l, out[i]) {
					t.Errorf("%s(%v, %v): %v and %v", name, a, b, l, out[i])
				}
			}
		})
	}
}

// TestOneListTwice: an argument may be the other one, or a piece of it.
func TestOneListTwice(t *testing.T) {
	for name, call := range calls() {
		for _, a := range samples() {
			b := a[len(a)/2:]
			out := call(a, b)
			for i, l := range call(slices.Clone(a), slices.Clone(b)) {
				if !slices.Equal(l, out[i]) {
					t.Errorf("%s(%v, %v): %v and %v", name, a, b, l, out[i])
				}
			}
		}
	}
}

// TestNumbersAtTheirEnds: no count makes a call panic or go on without end.
func TestNumbersAtTheirEnds(t *testing.T) {
	for _, n := range []int{math.MinInt, -1, 0, 1, math.MaxInt - 1, math.MaxInt} {
		for _, a := range samples() {
			nat.Shl(a, n)
			nat.Shr(a, n)
			nat.Pow(a, n)
		}
	}
}
