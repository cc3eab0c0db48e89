package rat_test

import (
	"testing"

	"trammel/api"
	"trammel/rat"
)

// The chapter's examples, as they are told there.

func TestExamplesOfNumbers(t *testing.T) {
	out, e := rat.Make(small(6), small(-4))
	wantErr(t, "Make(6, -4)", e, api.OK)
	same(t, "Make(6, -4)", out, q(-3, 2))
	for _, c := range []struct {
		name string
		call func(a api.Rat) (api.Int, api.Errno)
		a    api.Rat
		out  int64
	}{
		{"Near(1/2)", rat.Near, q(1, 2), 1},
		{"Near(-1/2)", rat.Near, q(-1, 2), 0},
		{"Near(-3/2)", rat.Near, q(-3, 2), -1},
		{"Floor(-1/2)", rat.Floor, q(-1, 2), -1},
	} {
		out, e := c.call(c.a)
		wantErr(t, c.name, e, api.OK)
		same(t, c.name, rat.Of(out), q(c.out, 1))
	}
	far, e := rat.Dist(q(-3, 2))
	wantErr(t, "Dist(-3/2)", e, api.OK)
	same(t, "Dist(-3/2)", far, q(1, 2))
}

func TestExamplesOfTexts(t *testing.T) {
	out, at, e := rat.Read("2/4")
	if at != 0 || e != api.OK {
		t.Errorf("Read(2/4): %d %d", at, e)
	}
	same(t, "Read(2/4)", out, q(1, 2))
	for _, s := range []string{"1/0", "1/-2", "1/"} {
		out, at, e := rat.Read(s)
		none(t, s, out)
		if at != 2 || int(e) != 4 {
			t.Errorf("Read(%s): %d %d", s, at, e)
		}
	}
}

func TestNumbersOfErrors(t *testing.T) {
	_, e := rat.Make(small(1), small(0))
	if int(e) != 11 {
		t.Errorf("Make by 0: error %d", e)
	}
	if _, e = rat.Floor(q(1, 0)); int(e) != 30 {
		t.Errorf("Floor of what may not be: error %d", e)
	}
}
