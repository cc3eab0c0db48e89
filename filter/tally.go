package filter

import "sync/atomic"

// What is counted, each in a half of one word: a program makes fewer than 2^31 steps, so neither half runs over.
const (
	byTest  = 1
	byExact = 1 << 32
)

// tally counts both in one word, so that both are read, and both are set to 0, at one moment, whoever is counting then.
type tally struct {
	word atomic.Uint64
}

func (t *tally) add(what uint64) {
	t.word.Add(what)
}

func (t *tally) both() (int, int) {
	w := t.word.Load()
	return int(w % byExact), int(w / byExact)
}

func (t *tally) reset() {
	t.word.Store(0)
}
