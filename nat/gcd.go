package nat

import "trammel/euclid"

// Gcd: the greatest number that divides both; of 0 and 0 it is 0.
func Gcd(a, b []uint32) []uint32 {
	a, b = trim(a), trim(b)
	if Cmp(a, b) < 0 {
		a, b = b, a
	}
	for len(b) >= euclid.Least {
		a, b = lower(a, b)
	}
	if len(b) == 0 {
		return Norm(a)
	}
	_, r, _ := Div(a, b)
	return ofWord(gcdWords(word(b), word(r)))
}

// lower goes on in the row of rests that begins with a, b, by many places if their highest bits tell that many quotients, else by one.
func lower(a, b []uint32) ([]uint32, []uint32) {
	if s, ok := euclid.Look(a, b); ok {
		return s.Rests(a, b)
	}
	_, r, _ := Div(a, b)
	return b, r
}

func gcdWords(a, b uint64) uint64 {
	for b != 0 {
		a, b = b, a%b
	}
	return a
}
