package zint

import (
	"strings"

	"trammel/api"
	"trammel/nat"
)

// Text: decimal digits without a 0 ahead, behind a minus, if it is below 0.
func Text(a api.Int) string {
	if Sign(a) < 0 {
		return "-" + nat.Text(a.Mag)
	}
	return nat.Text(a.Mag)
}

// Read: the number of a text; of a text that is none the place of the first byte with which no number goes on.
func Read(s string) (api.Int, int, api.Errno) {
	if len(s) > api.MaxDigits {
		return api.Int{}, 0, api.ErrLong
	}
	for at := range len(s) {
		if !goesOn(s, at) {
			return api.Int{}, at, api.ErrForm
		}
	}
	digits := strings.TrimPrefix(s, "-")
	if digits == "" {
		return api.Int{}, len(s), api.ErrForm
	}
	return signed(s[0] == '-', ofDigits(digits)), 0, api.OK
}

// goesOn tells if some number's text begins with s up to its byte at a place, up to which one does.
func goesOn(s string, at int) bool {
	digit := '0' <= s[at] && s[at] <= '9'
	switch {
	case at == 0:
		return digit || s[0] == '-'
	case s[0] == '0':
		return false
	case at == 1 && s[0] == '-':
		return digit && s[at] != '0'
	}
	return digit
}

// chunkDigits is the most digits of which every number is a limb.
const chunkDigits = 9

// ofDigits is the magnitude of a text of nothing but digits.
func ofDigits(s string) []uint32 {
	out := []uint32{}
	for len(s) > 0 {
		n := min(chunkDigits, len(s))
		out = nat.Add(nat.Mul([]uint32{worth(n)}, out), []uint32{chunk(s[:n])})
		s = s[n:]
	}
	return out
}

// worth is 10^n, what a chunk of n digits lifts the number ahead of it by.
func worth(n int) uint32 {
	powers := [chunkDigits + 1]uint32{1, 10, 100, 1_000, 10_000, 100_000, 1_000_000, 10_000_000, 100_000_000, 1_000_000_000}
	return powers[n]
}

// chunk is the number of a chunk's digits.
func chunk(s string) uint32 {
	n := uint32(0)
	for i := range len(s) {
		n = 10*n + uint32(s[i]-'0')
	}
	return n
}
