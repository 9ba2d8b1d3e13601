package cue_test

import (
	"slices"
	"testing"

	"kelir/api"
	"kelir/cue"
)

// P4.3: the chapter's examples, the longest lists, and arguments that are not as defined.
func TestTell(t *testing.T) {
	// the versions differ in the last of four states alone
	far := with(book(1, 2, version(moves(1, 0), moves(2, 0), moves(3, 0), moves(0, 0)), version(moves(1, 0), moves(2, 0), moves(3, 0), moves(0, 0))), func(b *api.CueBook) { b.Versions[1].States[3][0].Tune = 1 })
	// a version with three states and one with four agree until both have their turn
	turns := book(1, 2, version(moves(1, 0), moves(2, 0), moves(0, 1)), version(moves(1, 0), moves(2, 0), moves(3, 1), moves(3, 0)))
	for i, x := range []struct {
		b          api.CueBook
		one, other int
		want       []int
		e          api.Errno
	}{
		{bookB(), 0, 1, l(0, 1, 0), api.OK}, {bookB(), 1, 2, l(0, 0), api.OK}, {bookB(), 3, 2, l(0), api.OK}, {bookB(), 1, 1, nil, api.ErrNone}, {bookB(), 2, 0, l(0, 0), api.OK}, {bookB(), 1, 0, l(0, 1, 0), api.OK},
		{far, 0, 1, l(0, 0, 0, 0), api.OK}, {turns, 0, 1, l(0, 0, 0, 0, 0, 0), api.OK}, {greatestBook(), 0, 3, nil, api.ErrNone}, {turningBook(), 1, 3, l(0, 0), api.OK},
		// versions that are alike, with other states
		{book(2, 2, version(moves(0, 0, 0, 1)), version(moves(1, 0, 0, 1), moves(2, 0, 1, 1), moves(0, 0, 2, 1))), 0, 1, nil, api.ErrNone},
		// the first list with a tune that differs, not the first one that leads to states that do
		{book(2, 2, version(moves(1, 0, 0, 0), moves(1, 0, 1, 0)), version(moves(1, 0, 0, 1), moves(1, 1, 1, 1))), 0, 1, l(1), api.OK},
		{book(3, 3, version(moves(0, 0, 0, 1, 0, 2)), version(moves(0, 0, 0, 2, 0, 1))), 1, 0, l(1), api.OK},
	} {
		if y, e := cue.Tell(x.b, x.one, x.other); e != x.e || !slices.Equal(y, x.want) {
			t.Error(i, y, e)
		}
	}
	for _, n := range badVersions() {
		if y, e := cue.Tell(bookB(), n, 0); e != api.ErrArg || y != nil {
			t.Error(n, y, e)
		}
		if y, e := cue.Tell(bookB(), 0, n); e != api.ErrArg || y != nil {
			t.Error(n, y, e)
		}
		if y, e := cue.Tell(bookB(), n, n); e != api.ErrArg || y != nil {
			t.Error(n, y, e)
		}
	}
}

// P4.3: against all lists.
func TestTellIsDefined(t *testing.T) {
	g := random(11)
	m := met{}
	for range 800 {
		b := randomBook(g, 3, 2, 3)
		one, other := g.IntN(len(b.Versions)), g.IntN(len(b.Versions))
		differs := func(list []int) bool {
			return !slices.Equal(slowTunes(b.Versions[one], list), slowTunes(b.Versions[other], list))
		}
		y, e := cue.Tell(b, one, other)
		right, found := isFirst(y, e, b.Cues, 5, differs)
		if !right || !found && e != api.ErrNone {
			t.Fatal(b, one, other, y, e)
		}
		m.note(found, len(y))
	}
	m.atLeast(t, 5, "true 1", "true 2", "true 3", "false 0")
}

// P4.4: the chapter's examples, versions that are alike, and arguments that are not as defined.
func TestSettle(t *testing.T) {
	for i, x := range []struct {
		b        api.CueBook
		evenings []api.CueEvening
		want     []int
		e        api.Errno
	}{
		{bookB(), nil, l(0, 1, 0, 0), api.OK}, {bookB(), evenings(eveningE()), l(0, 1, 0), api.OK}, {bookB(), evenings(eveningG()), l(0), api.OK}, {bookB(), evenings(evening(l(0, 0), l(-1, 0))), nil, api.OK}, {bookB(), evenings(eveningN()), nil, api.ErrRule}, {bookB(), evenings(eveningE(), eveningG()), nil, api.ErrRule},
		{lostBook(), nil, nil, api.ErrNone}, {lostBook(), evenings(evening(l(0), l(0))), l(1), api.OK}, {lostBook(), evenings(evening(l(1), l(0))), l(0), api.OK}, {lostBook(), evenings(evening(l(0), l(1))), nil, api.OK},
		{greatestBook(), nil, nil, api.OK}, {turningBook(), nil, l(0, 0, 0), api.OK}, {forkBook(), nil, nil, api.ErrNone}, {forkBook(), evenings(evening(l(0), l(1))), l(0, 2), api.OK},
		// the versions 0 and 2 are alike, and need not be told apart
		{book(1, 2, version(moves(0, 0)), version(moves(0, 1)), version(moves(1, 0), moves(0, 0))), nil, l(0), api.OK},
	} {
		if y, e := cue.Settle(x.b, x.evenings); e != x.e || !slices.Equal(y, x.want) {
			t.Error(i, y, e)
		}
	}
	for i, list := range badEvenings() {
		if y, e := cue.Settle(bookB(), list); e != api.ErrArg || y != nil {
			t.Error(i, y, e)
		}
	}
}

// reaches reports whether some cues lead to a thing that is wanted.
func reaches[K comparable](from K, cues int, next func(K, int) K, wanted func(K) bool) bool {
	met := map[K]bool{from: true}
	for open := []K{from}; len(open) > 0; {
		thing := open[len(open)-1]
		open = open[:len(open)-1]
		if wanted(thing) {
			return true
		}
		for cue := range cues {
			if other := next(thing, cue); !met[other] {
				met[other] = true
				open = append(open, other)
			}
		}
	}
	return false
}

// P4.4: against all lists that are not too long, and against all that can be told apart.
func TestSettleIsDefined(t *testing.T) {
	g := random(12)
	m := met{}
	for range 3000 {
		b := randomBook(g, 2, 4, 3)
		list := randomEvenings(g, b)
		y, e := cue.Settle(b, list)
		left := slowRemains(b, list...)
		if len(left) == 0 {
			if e != api.ErrRule || y != nil {
				t.Fatal(b, list, y, e)
			}
			continue
		}
		pairs := slowUnlike(b, left)
		settles := func(cues []int) bool {
			for _, p := range pairs {
				if slices.Equal(slowTunes(b.Versions[p[0]], cues), slowTunes(b.Versions[p[1]], cues)) {
					return false
				}
			}
			return true
		}
		right, found := isFirst(y, e, b.Cues, 8, settles)
		if !right {
			t.Fatal(b, list, y, e)
		}
		if !found {
			// what was told, a bit for each pair, and the states
			type told struct {
				states [4]int
				pairs  int
			}
			next := func(now told, cue int) told {
				for bit, p := range pairs {
					a, b := b.Versions[p[0]].States[now.states[p[0]]][cue], b.Versions[p[1]].States[now.states[p[1]]][cue]
					if a.Tune != b.Tune {
						now.pairs |= 1 << bit
					}
				}
				for _, n := range left {
					now.states[n] = b.Versions[n].States[now.states[n]][cue].Next
				}
				return now
			}
			all := func(now told) bool { return now.pairs == 1<<len(pairs)-1 }
			if reaches(told{}, b.Cues, next, all) != (e == api.OK) {
				t.Fatal(b, list, y, e)
			}
		}
		m.note(found, min(len(y), 4))
	}
	m.atLeast(t, 10, "true 0", "true 1", "true 2", "true 3", "true 4", "false 0")
}

// P4.4: a list that is longer than any that is given.
func TestSettleLong(t *testing.T) {
	b := longBook()
	settles := func(cues []int) bool {
		var played [][]int
		for _, v := range b.Versions {
			tunes := slowTunes(v, cues)
			if slices.ContainsFunc(played, func(other []int) bool { return slices.Equal(other, tunes) }) {
				return false
			}
			played = append(played, tunes)
		}
		return true
	}
	y, e := cue.Settle(b, nil)
	if right, found := isFirst(y, e, 2, 13, settles); !right || !found || len(y) != 13 {
		t.Error(y, e)
	}
}

// P4.6: the chapter's examples, a list that is longer than any that is given, and arguments that are not as defined.
func TestJoin(t *testing.T) {
	for i, x := range []struct {
		b        api.CueBook
		evenings []api.CueEvening
		want     []int
		e        api.Errno
	}{
		{bookB(), evenings(eveningG()), l(1), api.OK}, {bookB(), evenings(eveningE()), nil, api.ErrNone}, {bookB(), nil, nil, api.ErrNone}, {bookB(), evenings(evening(l(0), l(1))), nil, api.OK}, {bookB(), evenings(eveningN()), nil, api.ErrRule}, {bookB(), evenings(eveningE(), eveningG()), nil, api.ErrRule},
		{lostBook(), nil, l(0), api.OK}, {greatestBook(), nil, nil, api.OK}, {turningBook(), nil, l(1, 0, 0, 0, 1, 0, 0, 0, 1), api.OK},
		// states that play alike, with other numbers
		{book(2, 2, version(moves(0, 0, 0, 0)), version(moves(0, 1, 1, 0), moves(1, 0, 1, 0))), nil, l(1), api.OK},
		// versions that are alike need not be in the same state
		{book(1, 2, version(moves(1, 0), moves(0, 0)), version(moves(0, 0))), nil, nil, api.OK},
	} {
		if y, e := cue.Join(x.b, x.evenings); e != x.e || !slices.Equal(y, x.want) {
			t.Error(i, y, e)
		}
	}
	for i, list := range badEvenings() {
		if y, e := cue.Join(bookB(), list); e != api.ErrArg || y != nil {
			t.Error(i, y, e)
		}
	}
}

// P4.6: against all lists that are not too long, and against all states. Whatever cues come later, all versions that remain play the same.
func TestJoinIsDefined(t *testing.T) {
	g := random(13)
	m := met{}
	for range 3000 {
		b := randomBook(g, 2, 4, 3)
		list := randomEvenings(g, b)
		y, e := cue.Join(b, list)
		left := slowRemains(b, list...)
		if len(left) == 0 {
			if e != api.ErrRule || y != nil {
				t.Fatal(b, list, y, e)
			}
			continue
		}
		known := map[[4]int]bool{}
		alike := func(states [4]int) bool {
			if is, met := known[states]; met {
				return is
			}
			is := true
			for _, n := range left {
				is = is && slowAlike(b.Cues, b.Versions[left[0]], states[left[0]], b.Versions[n], states[n])
			}
			known[states] = is
			return is
		}
		joins := func(cues []int) bool {
			var states [4]int
			for _, n := range left {
				_, states[n] = slowPlays(b.Versions[n], 0, cues)
			}
			return alike(states)
		}
		right, found := isFirst(y, e, b.Cues, 8, joins)
		if !right {
			t.Fatal(b, list, y, e)
		}
		next := func(states [4]int, cue int) [4]int {
			for _, n := range left {
				states[n] = b.Versions[n].States[states[n]][cue].Next
			}
			return states
		}
		if reaches([4]int{}, b.Cues, next, alike) != (e == api.OK) {
			t.Fatal(b, list, y, e)
		}
		m.note(found, min(len(y), 3))
		later := append(slices.Clone(y), randomCues(g, b, 8)...)
		for _, n := range left {
			if e == api.OK && !slices.Equal(slowTunes(b.Versions[n], later)[len(y):], slowTunes(b.Versions[left[0]], later)[len(y):]) {
				t.Fatal(b, list, y, later)
			}
		}
	}
	m.atLeast(t, 20, "true 0", "true 1", "true 2", "false 0")
}

// P4.7: states that are never met, states that play alike, and the order of states.
func TestReduce(t *testing.T) {
	for i, x := range []struct {
		b    api.CueBook
		want api.CueVersion
	}{
		{book(2, 3, bookB().Versions[0]), bookB().Versions[0]}, {book(2, 3, bookB().Versions[1]), bookB().Versions[1]}, {book(2, 3, bookB().Versions[2]), bookB().Versions[2]}, {book(2, 3, bookB().Versions[3]), bookB().Versions[3]},
		{greatestBook(), version(moves(0, 5, 0, 5, 0, 5, 0, 5))}, {smallBook(), version(moves(0, 1))},
		// the state 1 is never met
		{book(1, 2, version(moves(2, 0), moves(1, 1), moves(0, 1))), version(moves(1, 0), moves(0, 1))},
		// what differs is played only in states that are never met
		{book(2, 3, version(moves(0, 0, 0, 1), moves(0, 2, 1, 2))), version(moves(0, 0, 0, 1))},
		// the states 0 and 2 play alike
		{book(2, 3, version(moves(1, 0, 2, 1), moves(2, 2, 1, 1), moves(1, 0, 0, 1))), version(moves(1, 0, 0, 1), moves(0, 2, 1, 1))},
		// the state 2 comes before the state 1
		{book(2, 3, version(moves(2, 0, 1, 1), moves(1, 2, 1, 2), moves(2, 1, 0, 1))), version(moves(1, 0, 2, 1), moves(1, 1, 0, 1), moves(2, 2, 2, 2))},
		// the state 3 comes with one cue, the others with more
		{book(2, 2, version(moves(0, 0, 3, 0), moves(0, 1, 1, 0), moves(1, 1, 1, 1), moves(2, 0, 0, 1))), version(moves(0, 0, 1, 0), moves(2, 0, 0, 1), moves(3, 1, 3, 1), moves(0, 1, 3, 0))},
		{with(turningBook(), func(b *api.CueBook) { b.Versions = b.Versions[3:] }), turningVersion(3)},
		// the states are told apart by four cues at least
		{book(1, 2, version(moves(1, 0), moves(2, 0), moves(3, 0), moves(3, 1))), version(moves(1, 0), moves(2, 0), moves(3, 0), moves(3, 1))},
	} {
		if y, e := cue.Reduce(x.b, 0); e != api.OK || !sameVersion(y, x.want) {
			t.Error(i, y, e)
		}
	}
	if y, e := cue.Reduce(bookB(), 3); e != api.OK || !sameVersion(y, bookB().Versions[3]) {
		t.Error(y, e)
	}
	for _, n := range badVersions() {
		if y, e := cue.Reduce(bookB(), n); e != api.ErrArg || y.States != nil {
			t.Error(n, y, e)
		}
	}
}

// smallVersions returns all versions with so many cues, tunes and states.
func smallVersions(cues, tunes, states int) []api.CueVersion {
	var list []api.CueMove
	for next := range states {
		for tune := range tunes {
			list = append(list, api.CueMove{Next: next, Tune: tune})
		}
	}
	var out []api.CueVersion
	for _, choice := range slowLists(len(list), cues*states) {
		var v api.CueVersion
		for state := range states {
			var m []api.CueMove
			for cue := range cues {
				m = append(m, list[choice[state*cues+cue]])
			}
			v.States = append(v.States, m)
		}
		out = append(out, v)
	}
	return out
}

// P4.7: the version is alike, its states come in the order of the lists that lead to them, and no version with fewer states is alike.
func TestReduceIsDefined(t *testing.T) {
	g := random(14)
	m := met{}
	for range 400 {
		b := randomBook(g, 2, 2, 4)
		n := g.IntN(len(b.Versions))
		v := b.Versions[n]
		y, e := cue.Reduce(b, n)
		if e != api.OK || cue.Check(book(b.Cues, b.Tunes, y)) != api.OK || !slowAlike(b.Cues, v, 0, y, 0) {
			t.Fatal(b, n, y, e)
		}
		var order, kinds []int
		for _, list := range shortLists(b.Cues, 4) {
			if _, state := slowPlays(y, 0, list); !slices.Contains(order, state) {
				order = append(order, state)
			}
			_, state := slowPlays(v, 0, list)
			alike := func(kind int) bool { return slowAlike(b.Cues, v, kind, v, state) }
			if !slices.ContainsFunc(kinds, alike) {
				kinds = append(kinds, state)
			}
		}
		if !slices.Equal(order, l(0, 1, 2, 3)[:len(y.States)]) || len(kinds) != len(y.States) {
			t.Fatal(b, n, y, order, kinds)
		}
		for fewer := 1; fewer < min(3, len(y.States)); fewer++ {
			for _, small := range smallVersions(b.Cues, b.Tunes, fewer) {
				if slowTunes(small, slices.Repeat(l(0), 3))[0] == y.States[0][0].Tune && slowAlike(b.Cues, small, 0, y, 0) {
					t.Fatal(b, n, y, small)
				}
			}
		}
		m.note(len(v.States), " to ", len(y.States))
	}
	m.atLeast(t, 5, "1 to 1", "2 to 1", "2 to 2", "3 to 1", "3 to 2", "3 to 3", "4 to 2", "4 to 3", "4 to 4")
}
