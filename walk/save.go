package walk

import (
	"strconv"
	"strings"

	"trammel/api"
	"trammel/rat"
	"trammel/zint"
)

const (
	head  = "walk"
	blank = " "
)

// Save: the walker as a text.
func (w *Walker) Save() string {
	if !w.isMade() {
		return ""
	}
	bound, _ := rat.Text(w.tree.R)
	words := []string{head, w.mark, strconv.Itoa(w.told), bound}
	words = append(words, counted(w.root)...)
	words = append(words, counted(w.last())...)
	return strings.Join(words, blank)
}

// counted is how many numbers there are, and they.
func counted(l []api.Int) []string {
	out := []string{strconv.Itoa(len(l))}
	for _, x := range l {
		out = append(out, zint.Text(x))
	}
	return out
}
