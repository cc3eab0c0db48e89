package walk

import (
	"slices"

	"trammel/api"
	"trammel/rat"
	"trammel/tree"
	"trammel/zint"
)

const mostTold = 1<<62 - 1

// Load: the walker of a saved text; ErrTree; ErrLong, if it has more than MaxSave bytes; ErrForm, and the place at which the first word begins that can't stand there.
func Load(t api.Tree, s string) (*Walker, int, api.Errno) {
	switch e := tree.Valid(t); {
	case e != api.OK:
		return nil, 0, e
	case len(s) > api.MaxSave:
		return nil, 0, api.ErrLong
	}
	r := reader{text: s}
	w := r.walker(t)
	if r.end(); r.bad {
		return nil, r.at, api.ErrForm
	}
	return w, 0, api.OK
}

// walker reads a walker over t. If a word is at fault, it is none.
func (r *reader) walker(t api.Tree) *Walker {
	rows := len(t.G.L)
	take(r, oneOf(head))
	mark := take(r, oneOf(fresh, on, skipped, ended))
	told := take(r, number(toldWith(mark)))
	bound := take(r, rational(t.R))
	root := make([]api.Int, take(r, number(0, int64(rows))))
	for m := range root {
		root[m] = take(r, whole)
	}
	// What the last node may be is said by the tree's bound, also if the walker's has shrunk.
	w := begin(t, root)
	for m := range take(r, number(longWith(mark, len(root), rows))) {
		take(r, w.goingOn(m))
	}
	w.mark, w.told, w.tree.R = mark, told, bound
	return w
}

// toldWith is the least and the greatest number of nodes that may have been told.
func toldWith(mark string) (int64, int64) {
	switch {
	case mark == fresh:
		return 0, 0
	case hasNode(mark):
		return 1, mostTold
	}
	return 0, mostTold
}

// longWith is the least and the greatest number of numbers that the last node may have.
func longWith(mark string, root, rows int) (int64, int64) {
	if hasNode(mark) {
		return int64(max(1, root)), int64(rows)
	}
	return 0, 0
}

// goingOn reads the last node's number behind m others, and goes there: up to the root it must be the root's, and with it there must be a node.
func (w *Walker) goingOn(m int) func(word string) (api.Int, bool) {
	return func(word string) (api.Int, bool) {
		x, fits := whole(word)
		rooted := m >= len(w.root) || zint.Compare(x, w.root[m]) == 0
		return x, fits && rooted && w.put(m+1, x)
	}
}

// oneOf reads a word that is one of these.
func oneOf(words ...string) func(word string) (string, bool) {
	return func(word string) (string, bool) {
		// The word itself is a piece of the text, which is not to be kept.
		at := slices.Index(words, word)
		if at < 0 {
			return "", false
		}
		return words[at], true
	}
}

// number reads one from least, which is not below 0, to most.
func number(least, most int64) func(word string) (int, bool) {
	return func(word string) (int, bool) {
		x, fits := whole(word)
		n, short := zint.Small(x)
		return int(n), fits && short && least <= n && n <= most
	}
}

// whole reads a number as zint.Text has it.
func whole(word string) (api.Int, bool) {
	x, _, e := zint.Read(word)
	return x, e == api.OK
}

// rational reads one as rat.Text has it, from 0 to most.
func rational(most api.Rat) func(word string) (api.Rat, bool) {
	return func(word string) (api.Rat, bool) {
		r, _, e := rat.Read(word)
		if e != api.OK {
			return api.Rat{}, false
		}
		text, _ := rat.Text(r)
		return r, text == word && zint.Sign(r.Num) >= 0 && within(r, most)
	}
}
