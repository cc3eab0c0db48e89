package split

import (
	"strings"

	"trammel/api"
	"trammel/tree"
	"trammel/zint"
)

// Covers: if each of the first most nodes of a tree is just one time in done or below a job, and if these are all nodes; ErrTree; ErrArg, if most is not 0 to MaxNodes.
func Covers(t api.Tree, done [][]api.Int, jobs []api.Job, most int) (bool, bool, api.Errno) {
	nodes, all, e := tree.Nodes(t, most)
	if e != api.OK {
		return false, false, e
	}
	at := placesOf(done, jobs)
	for _, node := range nodes {
		if at.times(node) != 1 {
			return false, all, api.OK
		}
	}
	return true, all, api.OK
}

// uses is how often a suffix is done, and how often it is a job's root.
type uses struct {
	done, root int
}

// places finds by a suffix's text what it is used as.
type places map[string]uses

func placesOf(done [][]api.Int, jobs []api.Job) places {
	at := places{}
	for _, s := range done {
		at.put(s, uses{done: 1})
	}
	for _, j := range jobs {
		at.put(j.Root, uses{root: 1})
	}
	return at
}

func (at places) put(s []api.Int, more uses) {
	text := textOf(s)
	use := at[text]
	at[text] = uses{done: use.done + more.done, root: use.root + more.root}
}

// times is how often a node is in done or below a job: below each one with whose root it begins, as all that begins a node is a node, or empty.
func (at places) times(node []api.Int) int {
	text := ""
	n := at[text].root
	for _, x := range node {
		text += word(x)
		n += at[text].root
	}
	return n + at[text].done
}

// textOf is the words of a suffix's numbers, one after another.
func textOf(s []api.Int) string {
	var out strings.Builder
	for _, x := range s {
		out.WriteString(word(x))
	}
	return out.String()
}

// word ends with what no number has, so that no two suffixes have one text.
func word(x api.Int) string {
	return zint.Text(x) + " "
}
