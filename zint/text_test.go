package zint_test

import (
	"math/big"
	"math/rand"
	"strings"
	"testing"

	"trammel/api"
	"trammel/zint"
)

// P2.6.

func TestText(t *testing.T) {
	for _, a := range samples() {
		if s := zint.Text(a); s != value(a).String() {
			t.Errorf("Text(%v): %s", a, s)
		}
	}
}

func TestTextBeyondMaxDigits(t *testing.T) {
	s := "-1" + strings.Repeat("0", api.MaxDigits)
	n, _ := new(big.Int).SetString(s, 10)
	if zint.Text(form(n)) != s {
		t.Errorf("Text of %d digits", len(s)-1)
	}
}

func TestRead(t *testing.T) {
	for _, a := range samples() {
		checkRead(t, value(a).String())
	}
	r := rand.New(rand.NewSource(7))
	for n := range 100 {
		for _, s := range []string{
			strings.Repeat("9", n+1), "1" + strings.Repeat("0", n), "1" + strings.Repeat("0", n) + "1", "7" + digits(r, n),
		} {
			checkRead(t, s)
			checkRead(t, "-"+s)
		}
	}
}

func digits(r *rand.Rand, n int) string {
	out := make([]byte, n)
	for i := range out {
		out[i] = '0' + byte(r.Intn(10))
	}
	return string(out)
}

func checkRead(t *testing.T, s string) {
	t.Helper()
	n, ok := new(big.Int).SetString(s, 10)
	if !ok {
		t.Fatalf("no number: %q", s)
	}
	out, at, e := zint.Read(s)
	wantErr(t, "Read", e, api.OK)
	want(t, "Read", out, n)
	if at != 0 {
		t.Errorf("Read of a number tells the place %d", at)
	}
}

func TestReadFaults(t *testing.T) {
	nines := strings.Repeat("9", 100)
	for _, c := range []struct {
		s  string
		at int
	}{
		{"", 0}, {"-", 1},
		{"+1", 0}, {" 1", 0}, {"x", 0}, {"\x00", 0}, {"é", 0}, {"\xff", 0}, {"٣", 0}, {"/", 0}, {":", 0}, {"−1", 0},
		{"-0", 1}, {"-00", 1}, {"-01", 1}, {"-0x", 1}, {"--", 1}, {"--1", 1}, {"-+1", 1}, {"- 1", 1}, {"-x", 1}, {"-é", 1}, {"-\xff1", 1}, {"-/", 1}, {"-:", 1},
		{"00", 1}, {"007", 1}, {"0x", 1}, {"0-", 1}, {"0 ", 1}, {"0\n", 1}, {"0\xff1", 1}, {"01", 1},
		{"1x", 1}, {"1-", 1}, {"1 ", 1}, {"1.0", 1}, {"1/", 1}, {"1:", 1}, {"12a", 2}, {"12\n", 2}, {"12é3", 2}, {"12\xc3", 2}, {"12x45y", 2}, {"-12-3", 3}, {"-12a", 3},
		{nines + "a", 100}, {"-" + nines + "\x80" + nines, 101}, {"10-" + nines, 2},
	} {
		out, at, e := zint.Read(c.s)
		wantErr(t, "Read", e, api.ErrForm)
		none(t, "Read", out)
		if at != c.at {
			t.Errorf("Read(%q): the place %d", c.s, at)
		}
	}
}

// TestReadShortTexts holds all short texts of some bytes against those that Text can tell.
func TestReadShortTexts(t *testing.T) {
	texts := map[string]bool{}
	begins := map[string]bool{"": true}
	for n := int64(-9999); n <= 99999; n++ {
		s := zint.Text(zint.Of(n))
		texts[s] = true
		for i := range len(s) {
			begins[s[:i+1]] = true
		}
	}
	all := []string{""}
	for i := 0; len(all[i]) < 4; i++ {
		for _, c := range "-019a" {
			all = append(all, all[i]+string(c))
		}
	}
	for _, s := range all {
		out, at, e := zint.Read(s)
		if texts[s] {
			if e != api.OK || at != 0 || zint.Text(out) != s {
				t.Errorf("Read(%q): %v %d %d", s, out, at, e)
			}
			continue
		}
		place := 0
		for place < len(s) && begins[s[:place+1]] {
			place++
		}
		none(t, "Read", out)
		if e != api.ErrForm || at != place {
			t.Errorf("Read(%q): %d at %d instead of %d", s, e, at, place)
		}
	}
}

func TestReadAtItsLimit(t *testing.T) {
	checkRead(t, strings.Repeat("7", api.MaxDigits))
	checkRead(t, "-"+strings.Repeat("7", api.MaxDigits-1))
	out, at, e := zint.Read("-" + strings.Repeat("7", api.MaxDigits-2) + "x")
	wantErr(t, "Read at the limit", e, api.ErrForm)
	none(t, "Read at the limit", out)
	if at != api.MaxDigits-1 {
		t.Errorf("Read at the limit: the place %d", at)
	}
	// Longer than it may be comes ahead of what the bytes are.
	for _, s := range []string{
		strings.Repeat("7", api.MaxDigits+1),
		"-" + strings.Repeat("7", api.MaxDigits),
		strings.Repeat("0", api.MaxDigits+1),
		"x" + strings.Repeat("7", api.MaxDigits),
		strings.Repeat("-", 2*api.MaxDigits),
		strings.Repeat("é", api.MaxDigits/2) + "1",
	} {
		out, at, e := zint.Read(s)
		wantErr(t, "Read beyond the limit", e, api.ErrLong)
		none(t, "Read beyond the limit", out)
		if at != 0 {
			t.Errorf("Read beyond the limit: the place %d", at)
		}
	}
}
