package mat

import (
	"strings"

	"trammel/api"
	"trammel/zint"
)

const (
	blankMark = " "
	rowMark   = ";"
)

// Text: the rows' texts with a semicolon and a blank between.
func Text(b [][]api.Int) string {
	return strings.Join(each(b, TextVector), rowMark+blankMark)
}

// TextVector: the entries' texts with one blank between.
func TextVector(v []api.Int) string {
	return strings.Join(each(v, zint.Text), blankMark)
}

// Read: the matrix whose rows stand between semicolons; of a text that is none the place of the first word that is no number.
func Read(s string) ([][]api.Int, int, api.Errno) {
	switch {
	case len(s) > api.MaxText:
		return nil, 0, api.ErrLong
	case strings.Trim(s, blankMark) == "":
		return nil, 0, api.OK
	}
	return rowsOf(strings.Split(s, rowMark))
}

// ReadVector: the vector of numbers between blanks; of a text that is none the place of the first word that is no number.
func ReadVector(s string) ([]api.Int, int, api.Errno) {
	if len(s) > api.MaxText {
		return nil, 0, api.ErrLong
	}
	rows, at, e := rowsOf([]string{s})
	if e != api.OK {
		return nil, at, e
	}
	return rows[0], 0, api.OK
}

// fault is the place of a word that is no number: with it reading gives up, however deep it is.
type fault int

// rowsOf reads the rows' texts, between which one mark stood each time.
func rowsOf(texts []string) (b [][]api.Int, at int, e api.Errno) {
	defer func() {
		if place, gaveUp := recover().(fault); gaveUp {
			b, at, e = nil, int(place), api.ErrForm
		}
	}()
	all, sizes := []api.Int{}, []int{}
	from := 0
	for _, s := range texts {
		row := entries(s, from)
		all = append(all, row...)
		sizes = append(sizes, len(row))
		from += len(s) + len(rowMark)
	}
	return cut(all, sizes), 0, api.OK
}

// entries reads a row's text, which begins in the whole text at a place: a fault is told by its place there.
func entries(s string, from int) []api.Int {
	out := []api.Int{}
	for s != "" {
		word, rest, _ := strings.Cut(s, blankMark)
		// Between two blanks, ahead of the first and behind the last stands nothing.
		if word != "" {
			out = append(out, number(word, from))
		}
		from += len(word) + len(blankMark)
		s = rest
	}
	return out
}

// number reads a word, and gives up with its place, if it is no number.
func number(word string, at int) api.Int {
	a, _, e := zint.Read(word)
	if e != api.OK {
		panic(fault(at))
	}
	return a
}
