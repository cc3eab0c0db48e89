package nat_test

import (
	"math/big"
	"strings"
	"testing"

	"trammel/api"
	"trammel/nat"
)

// NA5.

func TestText(t *testing.T) {
	for _, a := range samples() {
		if s := nat.Text(a); s != value(a).String() {
			t.Errorf("Text(%v): %s", a, s)
		}
	}
	for n := range 100 {
		power := new(big.Int).Exp(big.NewInt(10), big.NewInt(int64(n)), nil)
		if s := nat.Text(limbs(power)); s != "1"+strings.Repeat("0", n) {
			t.Errorf("Text of ten to the %d: %s", n, s)
		}
		power.Sub(power, big.NewInt(1))
		if s := nat.Text(limbs(power)); s != power.String() {
			t.Errorf("Text of one less than ten to the %d: %s", n, s)
		}
	}
}

func TestTextBeyondMaxDigits(t *testing.T) {
	a, e := nat.Pow([]uint32{10}, api.MaxDigits)
	wantErr(t, "Pow", e, api.OK)
	if s := nat.Text(a); s != "1"+strings.Repeat("0", api.MaxDigits) {
		t.Errorf("Text of %d bytes", len(s))
	}
}

func TestRead(t *testing.T) {
	for _, a := range samples() {
		checkRead(t, value(a).String())
	}
	for n := range 60 {
		checkRead(t, strings.Repeat("9", n+1))
		checkRead(t, "1"+strings.Repeat("0", n))
	}
}

func checkRead(t *testing.T, s string) {
	t.Helper()
	n, ok := new(big.Int).SetString(s, 10)
	if !ok {
		t.Fatalf("no number: %q", s)
	}
	out, at, e := nat.Read(s)
	wantErr(t, "Read", e, api.OK)
	want(t, "Read", out, n)
	if at != 0 {
		t.Errorf("Read of a number tells the place %d", at)
	}
}

func TestReadFaults(t *testing.T) {
	nines := strings.Repeat("9", 100)
	for _, c := range []struct {
		s  string
		at int
	}{
		{"", 0},
		{"-", 0}, {"-1", 0}, {"+1", 0}, {" 1", 0}, {"x", 0}, {"\x00", 0}, {"é", 0}, {"\xff", 0}, {"٣", 0},
		{"00", 1}, {"01", 1}, {"012", 1}, {"0x", 1}, {"0 ", 1}, {"0é", 1}, {"0\xff1", 1},
		{"1x", 1}, {"1 ", 1}, {"1.0", 1}, {"1/", 1}, {"1:", 1}, {"12\n", 2}, {"12é3", 2}, {"12\xc3", 2}, {"12x45y", 2},
		{nines + "a", 100}, {nines + "\x80" + nines, 100},
	} {
		out, at, e := nat.Read(c.s)
		wantErr(t, "Read", e, api.ErrForm)
		none(t, "Read", out)
		if at != c.at {
			t.Errorf("Read(%q): the place %d", c.s, at)
		}
	}
}

func TestReadAtItsLimit(t *testing.T) {
	checkRead(t, strings.Repeat("7", api.MaxDigits))
	out, at, e := nat.Read(strings.Repeat("7", api.MaxDigits-1) + "x")
	wantErr(t, "Read at the limit", e, api.ErrForm)
	none(t, "Read at the limit", out)
	if at != api.MaxDigits-1 {
		t.Errorf("Read at the limit: the place %d", at)
	}
	// Longer than it may be comes ahead of what the bytes are.
	for _, s := range []string{
		strings.Repeat("7", api.MaxDigits+1),
		strings.Repeat("0", api.MaxDigits+1),
		"x" + strings.Repeat("7", api.MaxDigits),
		strings.Repeat("é", api.MaxDigits/2) + "1",
	} {
		out, at, e := nat.Read(s)
		wantErr(t, "Read beyond the limit", e, api.ErrLong)
		none(t, "Read beyond the limit", out)
		if at != 0 {
			t.Errorf("Read beyond the limit: the place %d", at)
		}
	}
}
