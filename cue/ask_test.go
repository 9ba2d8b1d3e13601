package cue_test

import (
	"slices"
	"testing"

	"kelir/api"
	"kelir/cue"
)

// P4.5: the chapter's examples, versions that are alike, and the order of errors.
func TestAsk(t *testing.T) {
	// a way begins with the cue 0, too, but needs more
	later := book(2, 2, version(moves(1, 0, 0, 0), moves(0, 0, 1, 0)), version(moves(1, 0, 0, 1), moves(0, 0, 1, 1)))
	// the cue 2 is as good as the cue 1
	either := book(3, 2, version(moves(0, 0, 0, 0, 0, 0)), version(moves(0, 0, 0, 1, 0, 1)))
	// the versions 0 and 1 cannot be told apart after the cues 0 2, the versions 2 and 3 after the cues 0 1
	fork := forkBook()
	for i, x := range []struct {
		b        api.CueBook
		evenings []api.CueEvening
		now      api.CueEvening
		cue, n   int
		e        api.Errno
	}{
		{bookB(), nil, nothing(), 0, 4, api.OK}, {bookB(), evenings(eveningE()), nothing(), 0, 3, api.OK}, {bookB(), evenings(eveningE()), evening(l(0, 1), l(0, 1)), 0, 1, api.OK}, {bookB(), nil, evening(l(0, 1), l(0, 1)), 0, 2, api.OK},
		{bookB(), evenings(eveningE()), evening(l(0), l(-1)), 1, 2, api.OK}, {bookB(), evenings(eveningG()), evening(l(1), l(-1)), 0, 0, api.ErrNone}, {bookB(), nil, evening(l(0, 1), l(1, 1)), -1, 0, api.OK}, {bookB(), evenings(evening(l(0, 0), l(0, 0))), nothing(), -1, 0, api.OK},
		// the evening tells what now cannot
		{bookB(), evenings(evening(l(0), l(1))), evening(l(1), l(1)), -1, 0, api.OK},
		{bookB(), evenings(eveningN()), nothing(), 0, 0, api.ErrRule}, {bookB(), evenings(eveningE()), eveningG(), 0, 0, api.ErrRule}, {bookB(), nil, eveningN(), 0, 0, api.ErrRule},
		{lostBook(), nil, nothing(), 0, 0, api.ErrNone}, {lostBook(), evenings(evening(l(0), l(0))), nothing(), 1, 1, api.OK}, {lostBook(), evenings(evening(l(0), l(1))), nothing(), -1, 0, api.OK}, {lostBook(), evenings(evening(l(0), l(0))), evening(l(0), l(-1)), 0, 0, api.ErrNone},
		{greatestBook(), nil, nothing(), -1, 0, api.OK}, {greatestBook(), nil, evening(slices.Repeat(l(0), 8), slices.Repeat(l(5), 8)), -1, 0, api.OK}, {greatestBook(), slices.Repeat(evenings(nothing()), 4), nothing(), -1, 0, api.OK},
		{later, nil, nothing(), 1, 1, api.OK}, {either, nil, nothing(), 1, 1, api.OK}, {turningBook(), nil, nothing(), 0, 3, api.OK},
		{fork, nil, nothing(), 0, 2, api.OK}, {fork, nil, evening(l(0), l(0)), 1, 1, api.OK}, {fork, nil, evening(l(0), l(1)), 2, 1, api.OK}, {fork, nil, evening(l(0), l(-1)), 0, 0, api.ErrNone},
		// more cues than are given on any evening
		{longBook(), nil, nothing(), 1, 13, api.OK},
	} {
		if c, n, e := cue.Ask(x.b, x.evenings, x.now); e != x.e || c != x.cue || n != x.n {
			t.Error(i, c, n, e)
		}
	}
	for i, list := range badEvenings() {
		if c, n, e := cue.Ask(bookB(), list, nothing()); e != api.ErrArg || c != 0 || n != 0 {
			t.Error(i, c, n, e)
		}
	}
	for i, now := range badEveningsOfOne() {
		for _, list := range [][]api.CueEvening{nil, evenings(eveningE()), evenings(eveningN())} {
			if c, n, e := cue.Ask(bookB(), list, now); e != api.ErrArg || c != 0 || n != 0 {
				t.Error(i, c, n, e)
			}
		}
	}
}

// standing has the states of the versions of a book, or -1 for those that do not remain.
type standing [4]int

func standingOf(b api.CueBook, left []int, cues []int) standing {
	s := standing{-1, -1, -1, -1}
	for _, n := range left {
		_, s[n] = slowPlays(b.Versions[n], 0, cues)
	}
	return s
}

// slowAsker finds ways by trying all of them.
type slowAsker struct {
	b      api.CueBook
	unlike [][2]int
	known  map[slowAsked]bool
}

type slowAsked struct {
	s standing
	n int
}

// can reports whether so many cues, at most, are enough.
func (a slowAsker) can(s standing, n int) bool {
	open := func(p [2]int) bool { return s[p[0]] >= 0 && s[p[1]] >= 0 }
	if !slices.ContainsFunc(a.unlike, open) {
		return true
	}
	if n == 0 {
		return false
	}
	is, met := a.known[slowAsked{s, n}]
	if !met {
		for cue := range a.b.Cues {
			is = is || a.canWith(s, n, cue)
		}
		a.known[slowAsked{s, n}] = is
	}
	return is
}

// canWith reports whether so many cues, at most, are enough, of which one is the first one.
func (a slowAsker) canWith(s standing, n, cue int) bool {
	for _, other := range a.after(s, cue) {
		if !a.can(other, n-1) {
			return false
		}
	}
	return true
}

func (a slowAsker) after(s standing, cue int) map[int]standing {
	out := map[int]standing{}
	for n, state := range s {
		if state < 0 {
			continue
		}
		m := a.b.Versions[n].States[state][cue]
		other, met := out[m.Tune]
		if !met {
			other = standing{-1, -1, -1, -1}
		}
		other[n] = m.Next
		out[m.Tune] = other
	}
	return out
}

// P4.5: against all ways. A way has no more cues than there are standings.
func TestAskIsDefined(t *testing.T) {
	g := random(21)
	m := met{}
	for range 2000 {
		b := randomBook(g, 3, 4, 3)
		list := randomEvenings(g, b)
		now := randomEvening(g, b)
		if g.IntN(3) > 0 {
			now = nothing()
		}
		c, n, e := cue.Ask(b, list, now)
		left := slowRemains(b, append(slices.Clone(list), now)...)
		if len(left) == 0 {
			if e != api.ErrRule || c != 0 || n != 0 {
				t.Fatal(b, list, now, c, n, e)
			}
			m.note("no version")
			continue
		}
		a := slowAsker{b, slowUnlike(b, left), map[slowAsked]bool{}}
		s := standingOf(b, left, now.Cues)
		least := 0
		for least <= 256 && !a.can(s, least) {
			least++
		}
		switch {
		case least > 256:
			m.note("no way")
			if c != 0 || n != 0 || e != api.ErrNone {
				t.Fatal(b, list, now, c, n, e)
			}
		case least == 0:
			m.note("alike")
			if c != -1 || n != 0 || e != api.OK {
				t.Fatal(b, list, now, c, n, e)
			}
		default:
			m.note("way ", least)
			first := 0
			for !a.canWith(s, least, first) {
				first++
			}
			if c != first || n != least || e != api.OK {
				t.Fatal(b, list, now, c, n, e, first, least)
			}
		}
	}
	m.atLeast(t, 20, "no version", "no way", "alike", "way 1", "way 2", "way 3", "way 4")
}

// P4.5: whatever is played, a cue less is needed then, and for some version no more than one less.
func TestAskToTheEnd(t *testing.T) {
	g := random(22)
	most := 0
	for range 500 {
		b := randomBook(g, 3, 4, 4)
		list := randomEvenings(g, b)
		c, n, e := cue.Ask(b, list, nothing())
		if e != api.OK {
			continue
		}
		longest := 0
		for _, truth := range slowRemains(b, list...) {
			var cues []int
			need, next := n, c
			for next != -1 {
				cues = append(cues, next)
				if len(cues) > n || len(cues) > api.CueLong {
					break
				}
				less, after, e := 0, 0, api.OK
				after, less, e = cue.Ask(b, list, evening(cues, slowTunes(b.Versions[truth], cues)))
				if e != api.OK || less >= need {
					t.Fatal(b, list, truth, cues, after, less, e)
				}
				need, next = less, after
			}
			if len(cues) > n {
				t.Fatal(b, list, truth, cues, n)
			}
			longest = max(longest, len(cues))
		}
		if n <= api.CueLong && longest != n {
			t.Fatal(b, list, c, n, longest)
		}
		most = max(most, n)
	}
	if most < 5 {
		t.Error(most)
	}
}

// P4.4, P4.5: where a list of cues settles it, there is a way that has no more cues; and with one evening less there is no better one.
func TestAskAndSettle(t *testing.T) {
	g := random(23)
	settled, better := 0, 0
	for range 4000 {
		b := randomBook(g, 3, 4, 4)
		list := randomEvenings(g, b)
		y, e := cue.Settle(b, list)
		if e != api.OK {
			continue
		}
		_, n, e := cue.Ask(b, list, nothing())
		if e != api.OK || n > len(y) {
			t.Fatal(b, list, y, n, e)
		}
		if n < len(y) {
			better++
		}
		if len(list) == 0 {
			continue
		}
		if _, all, e := cue.Ask(b, list[1:], nothing()); e == api.OK && all < n {
			t.Fatal(b, list, n, all)
		}
		settled++
	}
	if settled < 50 || better < 5 {
		t.Error(settled, better)
	}
}
