package mat_test

import (
	"math/big"
	"regexp"
	"strings"
	"testing"

	"trammel/api"
	"trammel/mat"
)

// P4.5 and P4.6.

func TestText(t *testing.T) {
	for _, c := range []struct {
		b [][]api.Int
		s string
	}{
		{nil, ""}, {rows(), ""}, {rows(nil), ""}, {rows(nil, nil), "; "}, {rows(nil, nil, nil), "; ; "},
		{rows(vec(0)), "0"}, {rows(noughts()), "0 0 0 0 0"}, {rows(vec(1, 2), vec(3, -4)), "1 2; 3 -4"},
		{rows(vec(1), nil, vec(2, -3)), "1; ; 2 -3"}, {rows(nil, vec(7)), "; 7"}, {rows(vec(7), nil), "7; "},
		{rows([]api.Int{num(true, 0, 1, 0), num(true, 0)}, []api.Int{num(false, 5, 0)}), "-4294967296 0; 5"},
	} {
		if s := mat.Text(c.b); s != c.s {
			t.Errorf("Text(%v): %q instead of %q", c.b, s, c.s)
		}
	}
}

func TestTextVector(t *testing.T) {
	for _, v := range vectors() {
		words := []string{}
		for _, n := range bigs(v) {
			words = append(words, n.String())
		}
		if s := mat.TextVector(v); s != strings.Join(words, " ") {
			t.Errorf("TextVector(%v): %q", v, s)
		}
		if s := mat.Text(rows(v)); s != strings.Join(words, " ") {
			t.Errorf("Text(%v): %q", v, s)
		}
	}
}

// TestTextHasNoLimit: what is told may be longer than what is read.
func TestTextHasNoLimit(t *testing.T) {
	v := make([]api.Int, api.MaxText)
	if s := mat.TextVector(v); s != strings.Repeat("0 ", api.MaxText-1)+"0" {
		t.Errorf("TextVector of %d entries: %d bytes", len(v), len(s))
	}
	b := make([][]api.Int, api.MaxText)
	if s := mat.Text(b); s != strings.Repeat("; ", api.MaxText-1) {
		t.Errorf("Text of %d rows: %d bytes", len(b), len(s))
	}
}

// parsed reads a text the library's way, by expressions: the numbers, or the place of the first word that is none.
func parsed(s string, word *regexp.Regexp) ([]bigInt, int, bool) {
	number := regexp.MustCompile(`^(0|-?[1-9][0-9]*)$`)
	out := []bigInt{}
	for _, span := range word.FindAllStringIndex(s, -1) {
		text := s[span[0]:span[1]]
		if !number.MatchString(text) {
			return nil, span[0], false
		}
		n, _ := new(big.Int).SetString(text, 10)
		out = append(out, n)
	}
	return out, 0, true
}

func checkReadVector(t *testing.T, s string) {
	t.Helper()
	l, place, fits := parsed(s, regexp.MustCompile(`(?s)[^ ]+`))
	e := api.OK
	if !fits {
		e = api.ErrForm
	}
	v, at, got := mat.ReadVector(s)
	wantErr(t, "ReadVector of "+short(s), got, e)
	wantVector(t, "ReadVector of "+short(s), v, l)
	if at != place {
		t.Errorf("ReadVector of %s: the place %d instead of %d", short(s), at, place)
	}
}

func checkRead(t *testing.T, s string) {
	t.Helper()
	word := regexp.MustCompile(`(?s)[^ ;]+`)
	_, place, fits := parsed(s, word)
	e, l := api.ErrForm, [][]bigInt{}
	if fits {
		e = api.OK
		if strings.Count(s, " ") < len(s) {
			for row := range strings.SplitSeq(s, ";") {
				numbers, _, _ := parsed(row, word)
				l = append(l, numbers)
			}
		}
	}
	b, at, got := mat.Read(s)
	wantErr(t, "Read of "+short(s), got, e)
	wantRows(t, "Read of "+short(s), b, l)
	if at != place {
		t.Errorf("Read of %s: the place %d instead of %d", short(s), at, place)
	}
}

func short(s string) string { return "'" + s[:min(len(s), 40)] + "'" }

// TestReadShortTexts holds all short texts of some bytes against the forms as expressions.
func TestReadShortTexts(t *testing.T) {
	all := []string{""}
	for i := 0; len(all[i]) < 5; i++ {
		for _, c := range " ;-01x" {
			all = append(all, all[i]+string(c))
		}
	}
	for _, s := range all {
		checkReadVector(t, s)
		checkRead(t, s)
	}
}

func TestReadSomeTexts(t *testing.T) {
	nines := strings.Repeat("9", 100)
	for _, s := range []string{
		"12 -34 0", "   7", "7   ", "  1  -2   3 ", "1 2; 3  -4 ", "1;2;3", " ; ;; ", "1 2;3;", ";;1", "1 2 3; 4",
		nines + " -" + nines + ";" + nines, nines + " " + nines + "x 1", "-4294967296 4294967296; 18446744073709551616",
		"1\t2", "1\n2", "\n", "\t", "1 2\r\n", "1\u00a02", "1 \u00a0 2", "1, 2", "1 + 2", "+1", "1 2 -", "- 1", "--1", "1-2", "1 .5", "é", "1 é; x", "1 \xff", "\x00", "1 ٣", "−1",
		"1 2; 3 x; y", "1 x; y", "1; 2; 007", "1; 2; -0 x", "00", "0 00", "0 -0", "01 x", "1:2", "1; 2 3:", "[1 2]",
	} {
		checkReadVector(t, s)
		checkRead(t, s)
	}
}

// TestReadPlaces: places that are told by hand, not by an expression.
func TestReadPlaces(t *testing.T) {
	for _, c := range []struct {
		s           string
		row, matrix int
	}{
		{"x", 0, 0}, {"  x", 2, 2}, {"1 2 3x 4y", 4, 4}, {"12;x", 0, 3}, {"1 ;x", 2, 3}, {" 1 ; 2 ; 3 04", 3, 11}, {"; ; ;x", 0, 5}, {"1;2; é", 0, 5}, {"-", 0, 0}, {"5 -", 2, 2},
	} {
		if v, at, e := mat.ReadVector(c.s); len(v) != 0 || at != c.row || e != api.ErrForm {
			t.Errorf("ReadVector(%q): %v %d %d", c.s, v, at, e)
		}
		if b, at, e := mat.Read(c.s); len(b) != 0 || at != c.matrix || e != api.ErrForm {
			t.Errorf("Read(%q): %v %d %d", c.s, b, at, e)
		}
	}
}

func TestReadBlanks(t *testing.T) {
	for _, s := range []string{"", " ", "    ", strings.Repeat(" ", api.MaxText)} {
		if b, at, e := mat.Read(s); len(b) != 0 || at != 0 || e != api.OK {
			t.Errorf("Read of %d blanks: %v %d %d", len(s), b, at, e)
		}
		if v, at, e := mat.ReadVector(s); len(v) != 0 || at != 0 || e != api.OK {
			t.Errorf("ReadVector of %d blanks: %v %d %d", len(s), v, at, e)
		}
	}
}

func TestReadAtItsLimit(t *testing.T) {
	const most = api.MaxText
	nines := strings.Repeat("9", most)
	for _, s := range []string{
		nines, "-" + nines[:most-1], nines[:most/2] + " " + nines[:most/2-1], nines[:most/2] + ";" + nines[:most/2-1],
		strings.Repeat(";", most), strings.Repeat("1 ", most/2), strings.Repeat("1;", most/2), strings.Repeat("1 2;", most/4),
		nines[:most-1] + "x", strings.Repeat("1 ", most/2-1) + " x", strings.Repeat("1;", most/2-1) + ";x", strings.Repeat("0", most), strings.Repeat(" ", most-1) + "x",
	} {
		checkReadVector(t, s)
		checkRead(t, s)
	}
	// Longer than it may be comes ahead of what the bytes are.
	for _, s := range []string{nines + "9", strings.Repeat(" ", most+1), strings.Repeat(";", most+1), "x" + nines, strings.Repeat("1 ", most), strings.Repeat("é", most/2) + "1"} {
		if v, at, e := mat.ReadVector(s); len(v) != 0 || at != 0 || e != api.ErrLong {
			t.Errorf("ReadVector beyond the limit: %d entries, %d %d", len(v), at, e)
		}
		if b, at, e := mat.Read(s); len(b) != 0 || at != 0 || e != api.ErrLong {
			t.Errorf("Read beyond the limit: %d rows, %d %d", len(b), at, e)
		}
	}
}
