package walk

import (
	"trammel/api"
	"trammel/rat"
)

// step is a walker's state on the way to its next node: it hands on to another one, or to none, where the way ends.
type step func() step

// first is the state with which the way begins.
func (w *Walker) first() step {
	switch w.mark {
	case fresh:
		return w.enter
	case on:
		return w.down
	case skipped:
		return w.beside
	}
	return nil
}

// enter goes to the root.
func (w *Walker) enter() step {
	for m, x := range w.root {
		// What begins a node is one: so a root of which any piece leads too far off begins none.
		if !w.put(m+1, x) {
			return w.stop
		}
	}
	if w.depth == 0 {
		return w.down
	}
	return w.tell
}

// down goes to the nearest child of the last node. If that is too far off, all of them are.
func (w *Walker) down() step {
	at := w.levels[w.depth].at
	if at.Left() == 0 {
		return w.beside
	}
	near, _ := rat.Near(at.Centre())
	if !w.put(w.depth+1, near) {
		return w.beside
	}
	return w.tell
}

// beside goes to the first node behind the last one that is not below it. Where the next number is too far off, all behind it are, and one goes up.
func (w *Walker) beside() step {
	m := w.depth
climb:
	for {
		switch {
		case m == len(w.root):
			return w.stop
		case w.put(m, behind(w.levels[m-1].at.Centre(), w.levels[m].x)):
			break climb
		}
		m--
	}
	return w.tell
}

// tell stays at the node.
func (w *Walker) tell() step {
	w.mark = on
	w.told++
	return nil
}

// stop is at the end.
func (w *Walker) stop() step {
	w.mark = ended
	w.depth = 0
	return nil
}

// put chooses x as the number m of the last node, from 1 on; if the bound lets that, the node ends with it.
func (w *Walker) put(m int, x api.Int) bool {
	at := w.levels[m-1].at.Child(x)
	w.levels[m] = level{x: x, at: at}
	if !within(at.Norm(), w.tree.R) {
		return false
	}
	w.depth = m
	return true
}
