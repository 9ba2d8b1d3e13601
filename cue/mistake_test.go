package cue_test

import (
	"cmp"
	"slices"
	"testing"

	"kelir/api"
	"kelir/cue"
)

// P4.8: the chapter's examples, the first of several lists, and arguments that are not as defined.
func TestMisheard(t *testing.T) {
	for i, x := range []struct {
		b                 api.CueBook
		version           int
		cues, tunes, want []int
		n                 int
		e                 api.Errno
	}{
		{bookB(), 2, l(1, 1, 0), l(1, 0, 0), l(1, 0, 0), 1, api.OK}, {bookB(), 2, l(0), l(2), nil, 0, api.ErrNone}, {bookB(), 0, nil, nil, nil, 0, api.OK}, {bookB(), 0, l(), l(), nil, 0, api.OK}, {bookB(), 1, l(1, 0, 1), l(-1, -1, -1), l(1, 0, 1), 0, api.OK},
		{bookB(), 0, l(1, 1, 1), l(0, 1, 2), l(0, 1, 0), 2, api.OK}, {bookB(), 0, l(1, 1), l(-1, 2), l(0, 0), 2, api.OK}, {bookB(), 0, l(0, 0), l(0, 0), nil, 0, api.ErrNone}, {bookB(), 2, l(1, 1, 1, 1, 1, 1, 1, 1), slices.Repeat(l(0), 8), slices.Repeat(l(0), 8), 8, api.OK},
		// 0 0 and 1 1 differ at one place each
		{bookB(), 3, l(0, 1), l(1, 1), l(0, 1), 0, api.OK}, {bookB(), 3, l(1, 0), l(1, 1), l(0, 0), 1, api.OK},
		// the fewest places, and not the first list
		{book(3, 2, version(moves(0, 1, 0, 1, 0, 0))), 0, l(2, 1), l(1, 1), l(0, 1), 1, api.OK}, {book(3, 2, version(moves(0, 1, 0, 1, 0, 0))), 0, l(1, 2), l(1, 1), l(1, 0), 1, api.OK},
		{greatestBook(), 3, slices.Repeat(l(3), 8), slices.Repeat(l(5), 8), slices.Repeat(l(3), 8), 0, api.OK}, {greatestBook(), 0, slices.Repeat(l(3), 8), l(5, 5, 5, 5, 5, 5, 5, 0), nil, 0, api.ErrNone},
	} {
		if y, n, e := cue.Misheard(x.b, x.version, x.cues, x.tunes); e != x.e || n != x.n || !slices.Equal(y, x.want) {
			t.Error(i, y, n, e)
		}
	}
	for i, bad := range badEveningsOfOne() {
		if y, n, e := cue.Misheard(bookB(), 0, bad.Cues, bad.Tunes); e != api.ErrArg || y != nil || n != 0 {
			t.Error(i, y, n, e)
		}
	}
	for _, v := range badVersions() {
		if y, n, e := cue.Misheard(bookB(), v, l(0), l(0)); e != api.ErrArg || y != nil || n != 0 {
			t.Error(v, y, n, e)
		}
	}
}

// P4.8: against all lists.
func TestMisheardIsDefined(t *testing.T) {
	g := random(31)
	m := met{}
	for range 1000 {
		b := randomBook(g, 3, 3, 4)
		v := g.IntN(len(b.Versions))
		tunes := randomEvening(g, b).Tunes
		var cues []int
		for range tunes {
			cues = append(cues, g.IntN(b.Cues))
		}
		differs := func(list []int) int {
			n := 0
			for i := range list {
				if list[i] != cues[i] {
					n++
				}
			}
			return n
		}
		var fitting [][]int
		for _, list := range slowLists(b.Cues, len(tunes)) {
			if slowAgrees(b.Versions[v], evening(list, tunes)) {
				fitting = append(fitting, list)
			}
		}
		y, n, e := cue.Misheard(b, v, cues, tunes)
		if len(fitting) == 0 {
			m.note("none")
			if e != api.ErrNone || y != nil || n != 0 {
				t.Fatal(b, v, cues, tunes, y, n, e)
			}
			continue
		}
		want := slices.MinFunc(fitting, func(a, b []int) int {
			return cmp.Or(cmp.Compare(differs(a), differs(b)), slices.Compare(a, b))
		})
		if e != api.OK || n != differs(want) || !slices.Equal(y, want) {
			t.Fatal(b, v, cues, tunes, y, n, e, want)
		}
		m.note("at ", n)
	}
	m.atLeast(t, 20, "none", "at 0", "at 1", "at 2")
}

// P4.9: the chapter's examples, tunes that are never played, and arguments that are not as defined.
func TestDangerAndFence(t *testing.T) {
	// the tune 2 is played in a state that is never met
	hidden := book(2, 3, version(moves(1, 0, 0, 0), moves(0, 1, 1, 0), moves(0, 2, 1, 2)))
	// the tune 1 needs the cues 1 and 2, one after the other
	two := book(3, 2, version(moves(0, 0, 1, 0, 0, 0), moves(0, 0, 0, 0, 0, 1)))
	// the tune 1 comes by the cue 2, or by the cues 0 and 1
	either := book(3, 2, version(moves(1, 0, 0, 0, 0, 1), moves(1, 0, 1, 1, 1, 1)))
	for i, x := range []struct {
		b             api.CueBook
		version, tune int
		danger        []int
		e             api.Errno
		fence         []int
	}{
		{bookB(), 0, 2, l(0, 0), api.OK, l(0)}, {bookB(), 2, 2, nil, api.ErrNone, nil}, {bookB(), 0, 0, l(0), api.OK, l(0)}, {bookB(), 0, 1, l(1), api.OK, l(1)}, {bookB(), 3, 0, l(1, 0), api.OK, l(0)}, {bookB(), 3, 1, l(0), api.OK, l(0, 1)}, {bookB(), 3, 2, nil, api.ErrNone, nil},
		{hidden, 0, 2, nil, api.ErrNone, nil}, {hidden, 0, 1, l(0, 0), api.OK, l(0)}, {hidden, 0, 0, l(0), api.OK, l(0, 1)}, {two, 0, 1, l(1, 2), api.OK, l(1)}, {two, 0, 0, l(0), api.OK, l(0, 1, 2)}, {either, 0, 1, l(2), api.OK, l(0, 2)},
		{greatestBook(), 3, 5, l(0), api.OK, l(0, 1, 2, 3)}, {greatestBook(), 3, 4, nil, api.ErrNone, nil}, {turningBook(), 1, 1, l(0, 0, 0, 0), api.OK, l(0)},
	} {
		if y, e := cue.Danger(x.b, x.version, x.tune); e != x.e || !slices.Equal(y, x.danger) {
			t.Error(i, y, e)
		}
		if y, e := cue.Fence(x.b, x.version, x.tune); e != api.OK || !slices.Equal(y, x.fence) {
			t.Error(i, y, e)
		}
	}
	for _, v := range badVersions() {
		if y, e := cue.Danger(bookB(), v, 0); e != api.ErrArg || y != nil {
			t.Error(v, y, e)
		}
		if y, e := cue.Fence(bookB(), v, 0); e != api.ErrArg || y != nil {
			t.Error(v, y, e)
		}
	}
	for _, tune := range badTuneNumbers() {
		if y, e := cue.Danger(bookB(), 0, tune); e != api.ErrArg || y != nil {
			t.Error(tune, y, e)
		}
		if y, e := cue.Fence(bookB(), 0, tune); e != api.ErrArg || y != nil {
			t.Error(tune, y, e)
		}
	}
}

// P4.9: against all lists of cues. A state is reached by fewer cues than there are states.
func TestDangerAndFenceAreDefined(t *testing.T) {
	g := random(32)
	m := met{}
	for range 1500 {
		b := randomBook(g, 3, 3, 4)
		n, tune := g.IntN(len(b.Versions)), g.IntN(b.Tunes)
		v := b.Versions[n]
		ends := func(list []int) bool { return len(list) > 0 && slowTunes(v, list)[len(list)-1] == tune }
		y, e := cue.Danger(b, n, tune)
		right, found := isFirst(y, e, b.Cues, len(v.States), ends)
		if !right || !found && e != api.ErrNone {
			t.Fatal(b, n, tune, y, e)
		}
		m.note("danger ", len(y))
		var dangers [][]int
		for _, list := range shortLists(b.Cues, len(v.States)) {
			if ends(list) {
				dangers = append(dangers, list)
			}
		}
		safe := func(fence []int) bool {
			passes := func(list []int) bool {
				return !slices.ContainsFunc(list, func(cue int) bool { return slices.Contains(fence, cue) })
			}
			return !slices.ContainsFunc(dangers, passes)
		}
		want, _ := firstList(b.Cues, b.Cues, func(list []int) bool {
			return slices.IsSorted(list) && len(slices.Compact(slices.Clone(list))) == len(list) && safe(list)
		})
		if y, e := cue.Fence(b, n, tune); e != api.OK || !slices.Equal(y, want) {
			t.Fatal(b, n, tune, y, e, want)
		}
		m.note("fence ", len(want))
	}
	m.atLeast(t, 10, "danger 0", "danger 1", "danger 2", "danger 3", "fence 0", "fence 1", "fence 2", "fence 3")
}

// P4.9: the chapter's examples, and the order of errors.
func TestNever(t *testing.T) {
	for i, x := range []struct {
		evenings []api.CueEvening
		now      api.CueEvening
		tune     int
		want     []int
		e        api.Errno
	}{
		{evenings(eveningE()), evening(l(0), l(0)), 2, l(0), api.OK}, {nil, nothing(), 1, l(0, 1), api.OK}, {nil, nothing(), 0, l(0), api.OK}, {nil, nothing(), 2, nil, api.OK}, {evenings(eveningE()), nothing(), 1, l(1), api.OK},
		{evenings(eveningE()), evening(l(0, 1), l(0, 1)), 2, l(0), api.OK}, {evenings(eveningE()), evening(l(0, 1), l(0, 1)), 0, l(0), api.OK}, {evenings(eveningG()), evening(l(1), l(1)), 0, l(0), api.OK}, {evenings(eveningG()), evening(l(0), l(0)), 1, l(1), api.OK},
		{evenings(eveningE(), eveningG()), nothing(), 0, nil, api.ErrRule}, {evenings(eveningE()), eveningG(), 0, nil, api.ErrRule}, {nil, eveningN(), 2, nil, api.ErrRule},
	} {
		if y, e := cue.Never(bookB(), x.evenings, x.now, x.tune); e != x.e || !slices.Equal(y, x.want) {
			t.Error(i, y, e)
		}
	}
	for i, list := range badEvenings() {
		if y, e := cue.Never(bookB(), list, nothing(), 0); e != api.ErrArg || y != nil {
			t.Error(i, y, e)
		}
	}
	for _, list := range [][]api.CueEvening{nil, evenings(eveningE()), evenings(eveningN())} {
		for i, now := range badEveningsOfOne() {
			if y, e := cue.Never(bookB(), list, now, 0); e != api.ErrArg || y != nil {
				t.Error(i, y, e)
			}
		}
		for _, tune := range badTuneNumbers() {
			if y, e := cue.Never(bookB(), list, nothing(), tune); e != api.ErrArg || y != nil {
				t.Error(tune, y, e)
			}
		}
	}
}

// P4.9: against the definition.
func TestNeverIsDefined(t *testing.T) {
	g := random(33)
	m := met{}
	for range 1000 {
		b := randomBook(g, 4, 4, 4)
		list, now, tune := randomEvenings(g, b), randomEvening(g, b), g.IntN(b.Tunes)
		left := slowRemains(b, append(slices.Clone(list), now)...)
		y, e := cue.Never(b, list, now, tune)
		if len(left) == 0 {
			m.note("no version")
			if e != api.ErrRule || y != nil {
				t.Fatal(b, list, now, tune, y, e)
			}
			continue
		}
		var want []int
		for c := range b.Cues {
			plays := func(n int) bool {
				cues := append(slices.Clone(now.Cues), c)
				return slowTunes(b.Versions[n], cues)[len(cues)-1] == tune
			}
			if slices.ContainsFunc(left, plays) {
				want = append(want, c)
			}
		}
		if e != api.OK || !slices.Equal(y, want) {
			t.Fatal(b, list, now, tune, y, e, want)
		}
		m.note(len(y))
	}
	m.atLeast(t, 20, "no version", "0", "1", "2", "3")
}
