package nat

import (
	"strconv"

	"trammel/api"
)

// A text goes by chunks: the greatest power of ten that is a limb.
const (
	chunkDigits = 9
	chunkWorth  = 1_000_000_000
)

// Text: decimal digits without a nought ahead.
func Text(a []uint32) string {
	chunks := []uint32{}
	for rest := Norm(a); len(rest) > 0; rest = trim(rest) {
		chunks = append(chunks, divSmall(rest, chunkWorth))
	}
	if len(chunks) == 0 {
		return "0"
	}
	last := len(chunks) - 1
	out := strconv.AppendUint(nil, uint64(chunks[last]), 10)
	for i := range last {
		out = appendChunk(out, chunks[last-1-i])
	}
	return string(out)
}

// appendChunk tells a chunk that is not the highest one, with its noughts ahead.
func appendChunk(out []byte, chunk uint32) []byte {
	out = append(out, "000000000"...)
	for i := range chunkDigits {
		out[len(out)-1-i] += byte(chunk % 10)
		chunk /= 10
	}
	return out
}

// Read: the number of a text; of a text that is none the place of the first byte with which no number goes on.
func Read(s string) ([]uint32, int, api.Errno) {
	if len(s) > api.MaxDigits {
		return nil, 0, api.ErrLong
	}
	if s == "" {
		return nil, 0, api.ErrForm
	}
	for at, r := range s {
		if r < '0' || r > '9' || at > 0 && s[0] == '0' {
			return nil, at, api.ErrForm
		}
	}
	return ofDigits(s), 0, api.OK
}

// ofDigits is the number of a text of nothing but digits.
func ofDigits(s string) []uint32 {
	out := []uint32{}
	chunk, worth := uint32(0), uint32(1)
	for _, r := range s {
		chunk, worth = chunk*10+uint32(r-'0'), worth*10
		if worth == chunkWorth {
			out = grow(out, worth, chunk)
			chunk, worth = 0, 1
		}
	}
	return trim(grow(out, worth, chunk))
}

// grow is a times m and c on top, in place but for a limb that comes behind.
func grow(a []uint32, m, c uint32) []uint32 {
	carry := uint64(c)
	for i := range len(a) {
		carry += uint64(a[i]) * uint64(m)
		a[i] = uint32(carry)
		carry >>= limbBits
	}
	if carry != 0 {
		a = append(a, uint32(carry))
	}
	return a
}
