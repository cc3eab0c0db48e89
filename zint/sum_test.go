package zint_test

import (
	"math/big"
	"math/rand"
	"testing"

	"trammel/api"
	"trammel/zint"
)

// P2.1: sums and products.

func TestAddSubMul(t *testing.T) {
	pairs(func(a, b api.Int) {
		x, y := value(a), value(b)
		want(t, "Add", zint.Add(a, b), new(big.Int).Add(x, y))
		want(t, "Sub", zint.Sub(a, b), new(big.Int).Sub(x, y))
		want(t, "Mul", zint.Mul(a, b), new(big.Int).Mul(x, y))
	})
}

func TestSumOfFew(t *testing.T) {
	want(t, "Sum of none", zint.Sum(nil), new(big.Int))
	want(t, "Sum of an empty list", zint.Sum([]api.Int{}), new(big.Int))
	want(t, "Sum of noughts", zint.Sum(noughts()), new(big.Int))
	pairs(func(a, b api.Int) {
		x, y := value(a), value(b)
		want(t, "Sum of one", zint.Sum([]api.Int{a}), x)
		want(t, "Sum of two", zint.Sum([]api.Int{a, b}), new(big.Int).Add(x, y))
		want(t, "Sum of three", zint.Sum([]api.Int{b, a, b}), new(big.Int).Add(x, new(big.Int).Add(y, y)))
	})
}

func TestSumOfMany(t *testing.T) {
	r := rand.New(rand.NewSource(2))
	for range 60 {
		all, sum := []api.Int{}, new(big.Int)
		for range r.Intn(200) {
			a := draw(r, r.Intn(9))
			all = append(all, a)
			sum.Add(sum, value(a))
		}
		want(t, "Sum", zint.Sum(all), sum)
	}
}

// TestSumOfUnlikeLengths: a sum must not take a long number's length for each of the many short ones.
func TestSumOfUnlikeLengths(t *testing.T) {
	long := api.Int{Mag: make([]uint32, 1<<20)}
	for i := range long.Mag {
		long.Mag[i] = top
	}
	all := []api.Int{long}
	for range 1 << 18 {
		all = append(all, num(false, 1))
	}
	sum := new(big.Int).Add(value1s(1<<20), big.NewInt(1<<18))
	want(t, "Sum", zint.Sum(all), sum)
}

// value1s is the number of n limbs with all bits.
func value1s(n int) *big.Int { return new(big.Int).Sub(power(32*n), big.NewInt(1)) }
