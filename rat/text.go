package rat

import (
	"strings"

	"trammel/api"
	"trammel/nat"
	"trammel/zint"
)

// Text: the numerator of the lowest terms and, if the denominator is above 1, that behind a slash.
func Text(a api.Rat) (string, api.Errno) {
	if !mayBe(a) {
		return "", api.ErrRat
	}
	a = lowest(a.Num, a.Den)
	if zint.Compare(a.Den, zint.Of(1)) == 0 {
		return zint.Text(a.Num), api.OK
	}
	return zint.Text(a.Num) + "/" + zint.Text(a.Den), api.OK
}

// Read: the rational of a text, which need not be in lowest terms; of a text that is none the place of the first byte with which no rational goes on.
func Read(s string) (api.Rat, int, api.Errno) {
	if len(s) > 2*api.MaxDigits {
		return api.Rat{}, 0, api.ErrLong
	}
	if at, ok := end(s); !ok {
		return api.Rat{}, at, api.ErrForm
	}
	num, den, slash := strings.Cut(s, "/")
	if !slash {
		den = "1"
	}
	digits := strings.TrimPrefix(num, "-")
	top := api.Int{Neg: digits != num, Mag: number(digits)}
	return lowest(top, api.Int{Mag: number(den)}), 0, api.OK
}

// end is the place of the first byte with which no rational goes on, the length of s, if there is none, and tells if s is a rational's text.
func end(s string) (int, bool) {
	from := 0
	if strings.HasPrefix(s, "-") {
		from = 1
	}
	at := numeralEnd(s, from, from == 0)
	if at > from && at < len(s) && s[at] == '/' {
		from = at + 1
		at = numeralEnd(s, from, false)
	}
	return at, at > from && at == len(s)
}

// numeralEnd is the place behind the numeral that begins at a place; that place itself, if none begins there. Behind a nought ahead no digit goes on; whether the nought alone is a numeral, zero says.
func numeralEnd(s string, at int, zero bool) int {
	if at < len(s) && s[at] == '0' {
		if zero {
			at++
		}
		return at
	}
	for at < len(s) && '0' <= s[at] && s[at] <= '9' {
		at++
	}
	return at
}

// number is the magnitude of a text of digits, at most twice MaxDigits. Of one beyond nat's limit each half is within it.
func number(s string) []uint32 {
	if len(s) > api.MaxDigits {
		low := api.MaxDigits
		worth, _ := nat.Pow([]uint32{10}, low)
		return nat.Add(nat.Mul(number(s[:len(s)-low]), worth), number(s[len(s)-low:]))
	}
	// Of noughts alone nothing is left, of which nat has no number: that is 0 too.
	mag, _, _ := nat.Read(strings.TrimLeft(s, "0"))
	return mag
}
