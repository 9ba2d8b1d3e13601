package cue_test

import (
	"slices"
	"testing"

	"kelir/api"
	"kelir/cue"
)

// P4.1.
func TestCheck(t *testing.T) {
	for i, b := range []api.CueBook{
		bookB(), lostBook(), turningBook(), greatestBook(), smallBook(),
		book(1, 1, version(moves(0, 0))), book(4, 6, version(moves(0, 5, 0, 0, 0, 1, 0, 2))), book(1, 1, version(moves(3, 0), moves(3, 0), moves(3, 0), moves(0, 0))),
		// versions need not have as many states, nor meet all of them
		book(1, 2, version(moves(0, 0), moves(0, 1)), version(moves(0, 1))),
	} {
		if e := cue.Check(b); e != api.OK {
			t.Error(i, e)
		}
	}
	for i, b := range badBooks() {
		if e := cue.Check(b); e != api.ErrArg {
			t.Error(i, b, e)
		}
	}
}

// P4.1: the chapter's examples, and arguments that are not as defined.
func TestPlays(t *testing.T) {
	for i, x := range []struct {
		version    int
		cues, want []int
	}{
		{0, l(0, 1, 0), l(0, 1, 2)}, {1, l(0, 1, 0), l(0, 1, 0)}, {0, nil, nil}, {3, l(), nil}, {2, l(1, 0), l(1, 0)}, {3, l(0, 1, 1, 0), l(1, 1, 1, 0)},
		{0, l(0, 0, 0, 0, 0, 0, 0, 0), l(0, 2, 0, 2, 0, 2, 0, 2)}, {0, l(0, 1, 1, 1, 1, 1, 1, 0), l(0, 1, 1, 1, 1, 1, 1, 2)},
	} {
		if y, e := cue.Plays(bookB(), x.version, x.cues); e != api.OK || !slices.Equal(y, x.want) {
			t.Error(i, y, e)
		}
	}
	for i, cues := range badCues() {
		if y, e := cue.Plays(bookB(), 0, cues); e != api.ErrArg || y != nil {
			t.Error(i, y, e)
		}
	}
	for _, n := range badVersions() {
		if y, e := cue.Plays(bookB(), n, l(0)); e != api.ErrArg || y != nil {
			t.Error(n, y, e)
		}
	}
}

// P4.1: against the definition; what is played for the first cues does not depend on later ones.
func TestPlaysAreDefined(t *testing.T) {
	g := random(1)
	for range 1000 {
		b := randomBook(g, 4, 4, 4)
		n := g.IntN(len(b.Versions))
		cues := randomCues(g, b, 8)
		y, e := cue.Plays(b, n, cues)
		if e != api.OK || !slices.Equal(y, slowTunes(b.Versions[n], cues)) {
			t.Fatal(b, n, cues, y, e)
		}
		for long := range len(cues) + 1 {
			if first, e := cue.Plays(b, n, cues[:long]); e != api.OK || !slices.Equal(first, y[:long]) {
				t.Fatal(b, n, cues, long, first, e)
			}
		}
	}
}

// P4.1: the chapter's examples, the most lists, and arguments that are not as defined.
func TestCount(t *testing.T) {
	for i, x := range []struct {
		b       api.CueBook
		version int
		tunes   []int
		n       int
		first   []int
		e       api.Errno
	}{
		{bookB(), 0, l(0, 1), 1, l(0, 1), api.OK}, {bookB(), 2, l(1, -1), 2, l(1, 0), api.OK}, {bookB(), 2, l(2), 0, nil, api.ErrNone}, {bookB(), 0, nil, 1, nil, api.OK}, {bookB(), 3, l(1, 1), 3, l(0, 0), api.OK},
		{bookB(), 3, l(-1, 0), 1, l(1, 0), api.OK}, {bookB(), 0, l(0, 0), 0, nil, api.ErrNone}, {bookB(), 0, slices.Repeat(l(-1), 8), 256, slices.Repeat(l(0), 8), api.OK}, {bookB(), 0, l(-1, -1, -1, -1, -1, -1, -1, 2), 64, l(0, 0, 0, 0, 0, 0, 0, 0), api.OK},
		{greatestBook(), 3, slices.Repeat(l(-1), 8), 65536, slices.Repeat(l(0), 8), api.OK}, {greatestBook(), 0, slices.Repeat(l(5), 8), 65536, slices.Repeat(l(0), 8), api.OK}, {greatestBook(), 0, l(5, 5, 5, 5, 5, 5, 5, 4), 0, nil, api.ErrNone},
	} {
		if n, first, e := cue.Count(x.b, x.version, x.tunes); e != x.e || n != x.n || !slices.Equal(first, x.first) {
			t.Error(i, n, first, e)
		}
	}
	for i, tunes := range badTunes() {
		if n, first, e := cue.Count(bookB(), 0, tunes); e != api.ErrArg || n != 0 || first != nil {
			t.Error(i, n, first, e)
		}
	}
	for _, v := range badVersions() {
		if n, first, e := cue.Count(bookB(), v, l(0)); e != api.ErrArg || n != 0 || first != nil {
			t.Error(v, n, first, e)
		}
	}
}

// P4.1: against all lists.
func TestCountIsDefined(t *testing.T) {
	g := random(2)
	m := met{}
	for range 500 {
		b := randomBook(g, 3, 3, 4)
		n := g.IntN(len(b.Versions))
		tunes := randomEvening(g, b).Tunes
		var all [][]int
		for _, list := range slowLists(b.Cues, len(tunes)) {
			if slowAgrees(b.Versions[n], evening(list, tunes)) {
				all = append(all, list)
			}
		}
		many, first, e := cue.Count(b, n, tunes)
		m.note(e)
		if len(all) == 0 {
			if e != api.ErrNone || many != 0 || first != nil {
				t.Fatal(b, n, tunes, many, first, e)
			}
		} else if e != api.OK || many != len(all) || !slices.Equal(first, all[0]) {
			t.Fatal(b, n, tunes, many, first, e, all)
		}
	}
	m.atLeast(t, 20, "0", "5")
}

// P4.2: the chapter's examples, tunes that were not noted, and arguments that are not as defined.
func TestRemains(t *testing.T) {
	for i, x := range []struct {
		evenings []api.CueEvening
		want     []int
	}{
		{nil, l(0, 1, 2, 3)}, {evenings(eveningE()), l(0, 1)}, {evenings(eveningG()), l(2, 3)}, {evenings(eveningE(), eveningG()), nil}, {evenings(eveningN()), nil}, {evenings(eveningN(), nothing()), nil},
		{evenings(nothing(), nothing(), nothing(), eveningG()), l(2, 3)}, {evenings(evening(l(0, 0), l(-1, 0))), l(2)}, {evenings(evening(l(0, 0), l(-1, 2))), l(0, 1)}, {evenings(evening(l(0, 1, 0), l(-1, -1, -1))), l(0, 1, 2, 3)},
		{evenings(evening(l(0, 1, 0), l(-1, -1, 2))), l(0)}, {evenings(evening(l(0), l(0)), evening(l(0, 1, 0), l(-1, -1, 0))), l(1, 2)},
		{evenings(evening(slices.Repeat(l(0), 8), l(0, 2, 0, 2, 0, 2, 0, 2))), l(0, 1)},
	} {
		if y, e := cue.Remains(bookB(), x.evenings); e != api.OK || !slices.Equal(y, x.want) {
			t.Error(i, y, e)
		}
	}
	for i, list := range badEvenings() {
		if y, e := cue.Remains(bookB(), list); e != api.ErrArg || y != nil {
			t.Error(i, y, e)
		}
	}
}

// P4.2: the chapter's examples, and the order of errors.
func TestSure(t *testing.T) {
	for i, x := range []struct {
		evenings   []api.CueEvening
		cues, want []int
		e          api.Errno
	}{
		{evenings(eveningE()), l(0, 1, 0), l(0, 1, -1), api.OK}, {evenings(eveningE(), eveningG()), l(0), nil, api.ErrRule}, {nil, l(1, 1, 0), l(1, 1, 0), api.OK}, {nil, l(1, 0, 0, 1), l(1, 0, -1, 1), api.OK}, {nil, nil, nil, api.OK}, {evenings(eveningE()), l(), nil, api.OK},
		{evenings(eveningE()), l(0, 0, 0, 1, 0), l(0, 2, 0, 1, -1), api.OK}, {nil, l(0, 1, 1), l(-1, 1, 1), api.OK}, {evenings(eveningN()), nil, nil, api.ErrRule}, {evenings(evening(l(0), l(1))), l(0, 1, 0), l(1, 1, 0), api.OK},
		// a tune that is sure again after one that is not
		{evenings(eveningE()), l(0, 1, 0, 1), l(0, 1, -1, 1), api.OK},
	} {
		if y, e := cue.Sure(bookB(), x.evenings, x.cues); e != x.e || !slices.Equal(y, x.want) {
			t.Error(i, y, e)
		}
	}
	for i, cues := range badCues() {
		for _, list := range [][]api.CueEvening{nil, evenings(eveningE()), evenings(eveningN())} {
			if y, e := cue.Sure(bookB(), list, cues); e != api.ErrArg || y != nil {
				t.Error(i, y, e)
			}
		}
	}
	for i, list := range badEvenings() {
		if y, e := cue.Sure(bookB(), list, l(0)); e != api.ErrArg || y != nil {
			t.Error(i, y, e)
		}
	}
}

// P4.2: against the definition. Whichever version it is, if its tunes were heard, it remains, and plays what surely is played.
func TestRemainsAndSureAreDefined(t *testing.T) {
	g := random(3)
	m := met{}
	for range 1500 {
		b := randomBook(g, 3, 4, 4)
		list := randomEvenings(g, b)
		want := slowRemains(b, list...)
		if y, e := cue.Remains(b, list); e != api.OK || !slices.Equal(y, want) {
			t.Fatal(b, list, y, e, want)
		}
		m.note("remain ", len(want))
		cues := randomCues(g, b, 8)
		y, e := cue.Sure(b, list, cues)
		if len(want) == 0 {
			if e != api.ErrRule || y != nil {
				t.Fatal(b, list, y, e)
			}
			continue
		}
		if e != api.OK || len(y) != len(cues) {
			t.Fatal(b, list, cues, y, e)
		}
		for place := range cues {
			played := map[int]bool{}
			for _, n := range want {
				played[slowTunes(b.Versions[n], cues)[place]] = true
			}
			m.note("sure ", len(played) == 1)
			if len(played) > 1 && y[place] != -1 || len(played) == 1 && !played[y[place]] {
				t.Fatal(b, list, cues, y, place, played)
			}
		}
		truth := g.IntN(len(b.Versions))
		heard := randomCues(g, b, 8)
		evenings := evenings(evening(heard, slowTunes(b.Versions[truth], heard)))
		if y, e := cue.Remains(b, evenings); e != api.OK || !slices.Contains(y, truth) {
			t.Fatal(b, evenings, y, e)
		}
		surely, e := cue.Sure(b, evenings, cues)
		for place, tune := range surely {
			if e != api.OK || tune != -1 && tune != slowTunes(b.Versions[truth], cues)[place] {
				t.Fatal(b, evenings, cues, surely, e)
			}
		}
	}
	m.atLeast(t, 50, "remain 0", "remain 1", "remain 2", "remain 3", "sure true", "sure false")
}

// P4.11: one evening more never makes more versions remain, and what surely is played stays so.
func TestOneEveningMore(t *testing.T) {
	g := random(4)
	fewer := 0
	for range 1500 {
		b := randomBook(g, 3, 4, 4)
		list := randomEvenings(g, b)
		if len(list) == api.CueEvenings {
			list = list[1:]
		}
		more := append(slices.Clone(list), randomEvening(g, b))
		before, e := cue.Remains(b, list)
		after, f := cue.Remains(b, more)
		if e != api.OK || f != api.OK {
			t.Fatal(b, list, more, e, f)
		}
		for _, n := range after {
			if !slices.Contains(before, n) {
				t.Fatal(b, list, more, before, after)
			}
		}
		if len(after) == 0 {
			continue
		}
		if len(after) < len(before) {
			fewer++
		}
		cues := randomCues(g, b, 8)
		surely, e := cue.Sure(b, list, cues)
		still, f := cue.Sure(b, more, cues)
		if e != api.OK || f != api.OK {
			t.Fatal(b, list, more, e, f)
		}
		for n, tune := range surely {
			if tune != -1 && still[n] != tune {
				t.Fatal(b, list, more, cues, surely, still)
			}
		}
	}
	if fewer < 50 {
		t.Error(fewer)
	}
}
