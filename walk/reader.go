package walk

import "strings"

// reader takes a text's words, one after another, up to the first one that can't stand there.
type reader struct {
	text string
	at   int  // where the last word that was taken begins
	next int  // where the one behind it would
	bad  bool // the last word can't stand there
}

// take takes a word, unless one was at fault, and is what fits makes of it, if that says that it can stand there.
func take[T any](r *reader, fits func(word string) (T, bool)) T {
	var none T
	if r.bad {
		return none
	}
	x, fit := fits(r.word())
	if !fit {
		r.bad = true
		return none
	}
	return x
}

// word is the next one. Behind the text's end it is empty, as between two blanks, and such a word can't stand anywhere.
func (r *reader) word() string {
	r.at = min(r.next, len(r.text))
	word, _, _ := strings.Cut(r.text[r.at:], blank)
	r.next = r.at + len(word) + len(blank)
	return word
}

// end finds a word that is left at fault.
func (r *reader) end() {
	if !r.bad && r.next <= len(r.text) {
		r.at, r.bad = r.next, true
	}
}
