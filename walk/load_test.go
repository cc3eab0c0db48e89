package walk_test

import (
	"math/big"
	"math/rand"
	"regexp"
	"slices"
	"strconv"
	"strings"
	"testing"

	"trammel/api"
	"trammel/walk"
)

// P12.4, held against a reader of the chapter's words.

var (
	countForm = regexp.MustCompile(`^(0|[1-9][0-9]*)$`)
	wholeForm = regexp.MustCompile(`^(0|-?[1-9][0-9]*)$`)
	ratioForm = regexp.MustCompile(`^(0|[1-9][0-9]*)(/[1-9][0-9]*)?$`)
)

// sheet is a text that is read word by word.
type sheet struct {
	words []string
	from  int // where the next word begins
	size  int
	bad   int // the place of the first fault, -1, if there is none
}

// take is the next word, and if it is well.
func (s *sheet) take(well func(word string) bool) string {
	switch {
	case s.bad >= 0:
		return ""
	case len(s.words) == 0:
		s.bad = s.size
		return ""
	case !well(s.words[0]):
		s.bad = s.from
		return ""
	}
	word := s.words[0]
	s.from += len(word) + 1
	s.words = s.words[1:]
	return word
}

func isWord(words ...string) func(word string) bool {
	return func(word string) bool { return slices.Contains(words, word) }
}

func bigOf(word string) bigInt {
	n, _ := new(big.Int).SetString(word, 10)
	return n
}

func isCount(least, most bigInt) func(word string) bool {
	return func(word string) bool {
		return countForm.MatchString(word) && bigOf(word).Cmp(least) >= 0 && bigOf(word).Cmp(most) <= 0
	}
}

func (s *sheet) count(least, most int64) int {
	n, _ := strconv.Atoi(s.take(isCount(big.NewInt(least), big.NewInt(most))))
	return n
}

func isRatio(most bigRat) func(word string) bool {
	return func(word string) bool {
		if !ratioForm.MatchString(word) {
			return false
		}
		r, _ := new(big.Rat).SetString(word)
		return ratText(r) == word && r.Cmp(most) <= 0
	}
}

// fault is the place of a text's first fault, -1, if it is a walker's over the tree.
func (m model) fault(text string) int {
	s := &sheet{words: strings.Split(text, " "), size: len(text), bad: -1}
	s.take(isWord("walk"))
	mark := s.take(isWord("new", "on", "skip", "end"))
	first, many := int64(0), int64(1<<62-1)
	stands := mark == "on" || mark == "skip"
	if stands {
		first = 1
	} else if mark == "new" {
		many = 0
	}
	s.count(first, many)
	s.take(isRatio(m.r))
	root := []api.Int{}
	for range s.count(0, int64(m.n)) {
		if word := s.take(wholeForm.MatchString); word != "" {
			root = append(root, form(bigOf(word)))
		}
	}
	least, most := int64(0), int64(0)
	if stands {
		least, most = max(1, int64(len(root))), int64(m.n)
	}
	node := []api.Int{}
	for range s.count(least, most) {
		s.take(func(word string) bool {
			if !wholeForm.MatchString(word) {
				return false
			}
			node = and(node, bigOf(word))
			k := len(node)
			return (k > len(root) || alike(node[k-1], root[k-1])) && m.isNode(node)
		})
	}
	if s.bad < 0 && len(s.words) > 0 {
		s.bad = s.from
	}
	return s.bad
}

func (m model) isNode(s []api.Int) bool { return len(s) > 0 && m.part(s).Cmp(m.r) <= 0 }

func wantFault(t *testing.T, tr api.Tree, s string, at int) {
	t.Helper()
	if w, place, e := walk.Load(tr, s); w != nil || place != at || e != api.ErrForm {
		t.Errorf("Load of %q: %v, %d, error %d, instead of %d", s, w, place, e, at)
	}
}

// wantLoad holds what Load makes of a text against the words, and tells if it is a walker.
func (m model) wantLoad(t *testing.T, tr api.Tree, s string) bool {
	t.Helper()
	if at := m.fault(s); at >= 0 {
		wantFault(t, tr, s, at)
		return false
	}
	wantSave(t, loaded(t, tr, s), s)
	return true
}

// strange are words that may be laid into a text.
func strange(r *rand.Rand) string {
	words := []string{
		"0", "1", "2", "3", "5", "12", "13", "-1", "-2", "-0", "00", "01", "+1", "1/2", "2/4", "4/2", "1/1", "0/1", "0/2", "1/0", "1/", "/1", "-1/2", "1/-2", "x", "", "0x1", "1e3", "1.5", "1_0",
		"new", "on", "skip", "end", "walk", "New", "news", "4611686018427387903", "4611686018427387904", "9223372036854775808", "18446744073709551616", "99999999999999999999999", "1\t", "\n", "é", "１",
	}
	return words[r.Intn(len(words))]
}

// spoil changes a text by chance.
func spoil(r *rand.Rand, s string) string {
	words := strings.Split(s, " ")
	at := r.Intn(len(words))
	place := r.Intn(len(s) + 1)
	const bytes = " 0123456789-/walknewoskiped"
	one := bytes[r.Intn(len(bytes)):][:1]
	switch r.Intn(9) {
	case 0:
		return s[:place]
	case 1:
		return s[:place] + one + s[place:]
	case 2:
		return s[:place] + one + s[min(place+1, len(s)):]
	case 3:
		return s[:place] + s[min(place+1, len(s)):]
	case 4:
		words = slices.Delete(words, at, at+1)
	case 5:
		words = slices.Insert(words, at, words[at])
	case 6:
		other := r.Intn(len(words))
		words[at], words[other] = words[other], words[at]
	case 7:
		words = slices.Insert(words, at+r.Intn(2), strange(r))
	default:
		words[at] = strange(r)
	}
	return strings.Join(words, " ")
}

// TestSpoiledTexts: texts of walkers, changed by chance once or a few times.
func TestSpoiledTexts(t *testing.T) {
	r := rand.New(rand.NewSource(20))
	good, bad := 0, 0
	for _, tr := range smallTrees(t, 21) {
		w := worldOf(tr)
		for _, root := range roots(r, w.m) {
			p := w.pair(t, root)
			for range 8 {
				p.next(t)
				if r.Intn(3) == 0 {
					p.skip(t)
				}
				p.shrink(t, p.drawBound(r))
				s := p.w.Save()
				if !w.m.wantLoad(t, tr, s) {
					t.Errorf("a walker's own text is refused: %q", s)
				}
				for range 6 {
					s = spoil(r, s)
					if w.m.wantLoad(t, tr, s) {
						good++
					} else {
						bad++
					}
				}
			}
		}
	}
	if good < 500 || bad < 5000 {
		t.Errorf("%d that are walkers and %d that are none are few", good, bad)
	}
}

// TestEachWord of a text is changed to many others, and each piece of it that begins it is read.
func TestEachWord(t *testing.T) {
	r := rand.New(rand.NewSource(22))
	tr := treeOf(t, q(7, 2), []api.Rat{q(1, 3), q(-1, 2), q(0, 1)}, vec(1, 0, 1), vec(0, 1, 1), vec(1, 0, -1))
	m := modelOf(tr)
	nodes := m.nodes(nil, 121)
	texts := []string{"walk new 0 7/2 0 0", "walk new 0 0 2 -5 123456789012345678901234567890 0", "walk end 17 1/3 3 0 0 0 0", "walk end 0 7/2 0 0", ""}
	for _, node := range nodes[:20] {
		s := m.walkText("on", 5, "3/2", node[:len(node)/2], node)
		texts = append(texts, s, m.walkText("skip", 1, "0", node, node))
	}
	for _, s := range texts {
		for end := range len(s) + 1 {
			m.wantLoad(t, tr, s[:end])
		}
		words := strings.Split(s, " ")
		for at := range words {
			for range 60 {
				l := slices.Clone(words)
				l[at] = strange(r)
				m.wantLoad(t, tr, strings.Join(l, " "))
			}
		}
	}
}

// walkText puts a text together.
func (m model) walkText(mark string, many int, bound string, root, node []api.Int) string {
	s := "walk " + mark + " " + strconv.Itoa(many) + " " + bound
	for _, l := range rows(root, node) {
		s += " " + strconv.Itoa(len(l))
		for _, x := range l {
			s += " " + whole(x).String()
		}
	}
	return s
}

// TestFaultsWrittenOut, by the plain square lattice up to 1.
func TestFaultsWrittenOut(t *testing.T) {
	for _, c := range []struct {
		s  string
		at int
	}{
		{"", 0},
		{" ", 0},
		{"walk", 4},
		{"walk ", 5},
		{"wal", 0},
		{"walks new 0 1 0 0", 0},
		{" walk new 0 1 0 0", 0},
		{"walk  new 0 1 0 0", 5},
		{"walk new 0 1 0 0 ", 17},
		{"walk new 0 1 0 0 0", 17},
		{"walk new 0 1 0 0\n", 15},
		{"walk\tnew 0 1 0 0", 0},
		{"walk now 0 1 0 0", 5},
		{"walk new", 8},
		{"walk new 1 1 0 0", 9},
		{"walk on 0 1 0 1 0", 8},
		{"walk skip 0 1 0 1 0", 10},
		{"walk on 01 1 0 1 0", 8},
		{"walk on -1 1 0 1 0", 8},
		{"walk on 4611686018427387904 1 0 1 0", 8},
		{"walk end 4611686018427387904 1 0 0", 9},
		{"walk new 0 2 0 0", 11},
		{"walk new 0 -1 0 0", 11},
		{"walk new 0 3/2 0 0", 11},
		{"walk new 0 2/4 0 0", 11},
		{"walk new 0 1/1 0 0", 11},
		{"walk new 0 1 3 0 0 0 0", 13},
		{"walk new 0 1 -1 0", 13},
		{"walk new 0 1 2 0", 16},
		{"walk new 0 1 2 0 x 0", 17},
		{"walk new 0 1 2 0 0", 18},
		{"walk new 0 1 0 1 0", 15},
		{"walk end 8 1 0 1 0", 15},
		{"walk on 1 1 0 0", 14},
		{"walk on 1 1 2 0 0 1 0", 18},
		{"walk on 1 1 0 3 0 0 0", 14},
		{"walk on 1 1 0 2 0", 17},
		{"walk on 1 1 0 1 2", 16},
		{"walk on 1 1 0 2 1 1", 18},
		{"walk on 1 1 0 2 2 1", 16},
		{"walk on 1 1 0 2 2 x", 16},
		{"walk on 1 1 1 1 1 0", 18},
		{"walk on 1 1 1 1 2 1 1", 20},
		{"walk on 1 1 1 2 1 2", 18},
		{"walk on 1 1 2 1 1 2 1 1", 22},
	} {
		wantFault(t, square(t), c.s, c.at)
	}
}

// TestTextsWrittenOut, that are walkers of the plain square lattice up to 1: what was told before is not looked at otherwise.
func TestTextsWrittenOut(t *testing.T) {
	for _, c := range []struct {
		s    string
		rest [][]api.Int
	}{
		{"walk new 0 1 0 0", squareNodes()},
		{"walk new 0 1/2 0 0", squareNodes()[:2]},
		{"walk new 0 0 1 0 0", squareNodes()[:2]},
		{"walk new 0 1 1 2 0", nil},
		{"walk new 0 1 2 9 9 0", nil},
		{"walk on 1 1 0 1 0", squareNodes()[1:]},
		{"walk skip 1 1 0 1 0", squareNodes()[4:]},
		{"walk on 99 1 0 2 -1 0", nil},
		{"walk skip 4611686018427387902 1 0 1 1", squareNodes()[6:7]},
		{"walk on 7 1/2 0 1 1", nil},
		{"walk on 7 0 0 2 0 0", nil},
		{"walk on 1 1 1 0 2 0 1", squareNodes()[3:4]},
		{"walk on 1 1 2 0 1 2 0 1", nil},
		{"walk end 0 1 0 0", nil},
		{"walk end 3 1/3 2 0 7 0", nil},
		{"walk end 4611686018427387903 1 0 0", nil},
	} {
		w := loaded(t, square(t), c.s)
		wantSave(t, w, c.s)
		for _, node := range c.rest {
			wantNext(t, w, node)
			if strings.HasPrefix(c.s, "walk skip 46") {
				break
			}
		}
		if !strings.HasPrefix(c.s, "walk skip 46") {
			wantEnd(t, w)
		}
	}
}

// TestManyWereTold: how many goes on from what the text says.
func TestManyWereTold(t *testing.T) {
	w := loaded(t, square(t), "walk skip 4611686018427387902 1 0 1 1")
	wantNext(t, w, vec(-1))
	wantSave(t, w, "walk on 4611686018427387903 1 0 1 -1")
	wantSave(t, loaded(t, square(t), w.Save()), w.Save())
}

// TestTheTreesBoundLetsTheNode: the walker's may have shrunk below the last node's part.
func TestTheTreesBoundLetsTheNode(t *testing.T) {
	tr := treeOf(t, q(24, 6), nil, vec(1, 0), vec(0, 1))
	wantSave(t, loaded(t, tr, "walk new 0 4 0 0"), "walk new 0 4 0 0")
	w := loaded(t, tr, "walk on 3 1/2 0 2 -2 0")
	wantPart(t, w, q(4, 1))
	wantEnd(t, w)
	wantFault(t, tr, "walk on 3 1/2 0 2 -2 1", 21)
	wantFault(t, tr, "walk on 3 5 0 2 -2 0", 10)
}

// TestLongTexts: just MaxSave bytes are let; one more is ErrLong, whatever they are.
func TestLongTexts(t *testing.T) {
	tr := square(t)
	ahead, behind := "walk new 0 1 2 -3 ", " 0"
	s := ahead + strings.Repeat("7", api.MaxSave-len(ahead)-len(behind)) + behind
	w := loaded(t, tr, s)
	wantSave(t, w, s)
	wantEnd(t, w)
	wantFault(t, tr, s[:api.MaxSave-3]+"x"+s[api.MaxSave-2:], len(ahead))
	wantFault(t, tr, strings.Repeat(" ", api.MaxSave), 0)
	for _, long := range []string{s + " ", s[:20] + "1" + s[20:], strings.Repeat("x", api.MaxSave+1), strings.Repeat(" ", 3*api.MaxSave)} {
		if w, at, e := walk.Load(tr, long); w != nil || at != 0 || e != api.ErrLong {
			t.Errorf("Load of %d bytes: %v, %d, error %d", len(long), w, at, e)
		}
	}
}

// TestALongSave: a walker's text may be longer than what may be read.
func TestALongSave(t *testing.T) {
	far := power(120000)
	tr := treeOf(t, api.Rat{Num: power(250000), Den: small(1)}, nil, vec(1, 0), vec(0, 1))
	w := made(t, tr, []api.Int{far})
	wantNext(t, w, []api.Int{far})
	n := whole(far).String()
	s := "walk on 1 " + whole(power(250000)).String() + " 1 " + n + " 1 " + n
	wantSave(t, w, s)
	if w, at, e := walk.Load(tr, s); w != nil || at != 0 || e != api.ErrLong {
		t.Errorf("Load of %d bytes: %v, %d, error %d", len(s), w, at, e)
	}
	wantErr(t, "Shrink", w.Shrink(q(1, 1)), api.OK)
	wantSave(t, w, "walk on 1 1 1 "+n+" 1 "+n)
}
