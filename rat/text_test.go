package rat_test

import (
	"math/big"
	"math/rand"
	"regexp"
	"strings"
	"testing"

	"trammel/api"
	"trammel/rat"
)

// RA4.

func TestText(t *testing.T) {
	r := rand.New(rand.NewSource(5))
	all := samples()
	for range 300 {
		all = append(all, drawRat(r, 12))
	}
	for _, a := range all {
		s, e := rat.Text(a)
		if e != api.OK || s != value(a).RatString() {
			t.Errorf("Text(%v): %s %d", a, s, e)
		}
	}
}

func TestTextOfSome(t *testing.T) {
	for _, c := range []struct {
		a api.Rat
		s string
	}{
		{q(0, 1), "0"}, {q(0, 7), "0"}, {api.Rat{Num: num(true, 0), Den: small(4)}, "0"},
		{q(5, 1), "5"}, {q(-5, 1), "-5"}, {q(10, 2), "5"}, {q(-10, 2), "-5"}, {q(7, 7), "1"}, {q(-7, 7), "-1"},
		{q(1, 2), "1/2"}, {q(-1, 2), "-1/2"}, {q(6, 4), "3/2"}, {q(-6, 4), "-3/2"}, {q(10, 100), "1/10"}, {q(1, 1<<32), "1/4294967296"},
		{api.Rat{Num: num(true, 6, 0), Den: num(false, 4, 0, 0)}, "-3/2"},
	} {
		if s, e := rat.Text(c.a); s != c.s || e != api.OK {
			t.Errorf("Text(%v): %s %d", c.a, s, e)
		}
	}
}

// TestTextBeyondLimits: Text has no limit, of whatever length both numbers are.
func TestTextBeyondLimits(t *testing.T) {
	s := "-1" + strings.Repeat("0", 2*api.MaxDigits) + "/7"
	r, _ := new(big.Rat).SetString(s)
	if out, e := rat.Text(terms(r)); out != s || e != api.OK {
		t.Errorf("Text of %d bytes: %d bytes, %d", len(s), len(out), e)
	}
}

func checkRead(t *testing.T, s string) {
	t.Helper()
	r, ok := new(big.Rat).SetString(s)
	if !ok {
		t.Fatalf("no rational: %q", s)
	}
	out, at, e := rat.Read(s)
	wantErr(t, "Read", e, api.OK)
	want(t, "Read", out, r)
	if at != 0 {
		t.Errorf("Read of a rational tells the place %d", at)
	}
}

func TestRead(t *testing.T) {
	for _, a := range samples() {
		checkRead(t, whole(a.Num).String()+"/"+whole(a.Den).String())
		checkRead(t, value(a).RatString())
		checkRead(t, whole(a.Num).String())
	}
	for _, s := range []string{"0", "0/1", "0/7", "1/1", "-1/1", "10/10", "-10/5", "100/10", "9/3", "1/4294967296", "-4294967296/2"} {
		checkRead(t, s)
	}
}

func checkFault(t *testing.T, s string, place int) {
	t.Helper()
	out, at, e := rat.Read(s)
	name := s[:min(len(s), 40)]
	wantErr(t, "Read of "+name, e, api.ErrForm)
	none(t, "Read of "+name, out)
	if at != place {
		t.Errorf("Read(%q): the place %d instead of %d", name, at, place)
	}
}

func TestReadFaults(t *testing.T) {
	nines := strings.Repeat("9", 100)
	for _, c := range []struct {
		s  string
		at int
	}{
		{"", 0}, {"-", 1}, {"1/", 2}, {"0/", 2}, {"-1/", 3}, {"12/", 3},
		{"/", 0}, {"/2", 0}, {"+1", 0}, {" 1", 0}, {"x", 0}, {":", 0}, {"\x00", 0}, {"\xff", 0}, {"é", 0}, {"½", 0}, {"٣", 0}, {"−1", 0}, {"⁄2", 0},
		{"-0", 1}, {"-0/5", 1}, {"-00", 1}, {"-01", 1}, {"-/2", 1}, {"--1", 1}, {"-+1", 1}, {"- 1", 1}, {"-x", 1}, {"-é", 1},
		{"00", 1}, {"01", 1}, {"007/2", 1}, {"00/1", 1}, {"0x", 1}, {"0-", 1}, {"0 /1", 1},
		{"1x", 1}, {"1-", 1}, {"1 /2", 1}, {"1.5", 1}, {"1:2", 1}, {"1\n", 1}, {"1e5", 1}, {"12é", 2}, {"-12-3/4", 3}, {"1⁄2", 1}, {"1\xff/2", 1},
		{"1/0", 2}, {"1/00", 2}, {"1/01", 2}, {"1/0x", 2}, {"0/0", 2}, {"-1/0", 3}, {"1/-2", 2}, {"1/+2", 2}, {"1/ 2", 2}, {"1//2", 2}, {"1/x", 2}, {"1/é", 2}, {"1/\xff", 2}, {"1/-", 2}, {"1/:", 2},
		{"1/2/3", 3}, {"1/2/", 3}, {"1/2x", 3}, {"1/2 ", 3}, {"1/2\n", 3}, {"1/2-", 3}, {"1/2.0", 3}, {"1/20\xff", 4}, {"1/2:", 3}, {"-1/23/", 5},
		{nines + "/" + nines + "a", 201}, {"-" + nines + "/", 102}, {nines + "\x80/" + nines, 100}, {nines + "/0" + nines, 101}, {nines + "/-" + nines, 101},
	} {
		checkFault(t, c.s, c.at)
	}
}

// TestReadShortTexts holds all short texts of some bytes against the form as an expression. A text that is none may still begin one: then a digit is all that it lacks.
func TestReadShortTexts(t *testing.T) {
	fits := regexp.MustCompile(`^(0|-?[1-9][0-9]*)(/[1-9][0-9]*)?$`).MatchString
	begins := func(s string) bool { return fits(s) || fits(s+"1") }
	all := []string{""}
	for i := 0; len(all[i]) < 6; i++ {
		for _, c := range "-/026a" {
			all = append(all, all[i]+string(c))
		}
	}
	for _, s := range all {
		if fits(s) {
			checkRead(t, s)
			continue
		}
		place := 0
		for place < len(s) && begins(s[:place+1]) {
			place++
		}
		checkFault(t, s, place)
	}
}

// TestReadBeyondOneNumber: each of both numbers may be as long as the limit of the text leaves it, beyond MaxDigits too.
func TestReadBeyondOneNumber(t *testing.T) {
	const most = 2 * api.MaxDigits
	r := rand.New(rand.NewSource(6))
	random := "7" + digits(r, most-1)
	for _, s := range []string{
		random,
		"-" + random[:most-1],
		random[:api.MaxDigits+1],
		"1" + strings.Repeat("0", most-1),
		"1" + strings.Repeat("0", most-2) + "7",
		strings.Repeat("9", api.MaxDigits) + strings.Repeat("0", api.MaxDigits-1) + "5",
		random[:api.MaxDigits] + "/" + strings.Repeat("3", api.MaxDigits-1),
		random[:most-2] + "/7",
		"-" + random[:most-4] + "/14",
		"5/" + random[:most-2],
		"-1/1" + strings.Repeat("0", most-4),
		"3" + strings.Repeat("0", api.MaxDigits) + "/6" + strings.Repeat("0", api.MaxDigits-3),
		"0/" + random[:most-2],
	} {
		checkRead(t, s)
	}
}

func digits(r *rand.Rand, n int) string {
	out := make([]byte, n)
	for i := range out {
		out[i] = '0' + byte(r.Intn(10))
	}
	return string(out)
}

func TestReadAtItsLimit(t *testing.T) {
	const most = 2 * api.MaxDigits
	nines := strings.Repeat("9", most)
	checkFault(t, nines[:most-1]+"x", most-1)
	checkFault(t, nines[:most-1]+"/", most)
	checkFault(t, nines[:most-2]+"/0", most-1)
	checkFault(t, "x"+nines[:most-1], 0)
	checkFault(t, strings.Repeat("0", most), 1)
	checkFault(t, "1/"+nines[:most-3]+"/", most-1)
	// Longer than it may be comes ahead of what the bytes are.
	for _, s := range []string{
		nines + "9", "-" + nines, nines[:most-1] + "/1", "1/" + nines[:most-1], "x" + nines, strings.Repeat("0", most+1), strings.Repeat("/", 2*most), strings.Repeat("é", api.MaxDigits) + "1",
	} {
		out, at, e := rat.Read(s)
		wantErr(t, "Read beyond the limit", e, api.ErrLong)
		none(t, "Read beyond the limit", out)
		if at != 0 {
			t.Errorf("Read beyond the limit: the place %d", at)
		}
	}
}
