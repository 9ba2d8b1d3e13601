package dalang_test

import (
	"fmt"
	"slices"
	"testing"

	"kelir/api"
	"kelir/dalang"
)

// spoil changes all lists of a suite.
func spoil(s api.DalangSuite) {
	for n := range s.Plan.Scenes {
		s.Plan.Scenes[n] = api.NightScene{Part: 7}
	}
	for _, v := range s.Book.Versions {
		for _, moves := range v.States {
			clear(moves)
		}
		for n := range v.States {
			v.States[n] = nil
		}
	}
	clear(s.Book.Versions)
	for _, x := range s.Play.Scenes {
		clear(x.Moved)
		clear(x.Rest)
		for n := range x.Taken {
			x.Taken[n] = 2
		}
	}
	clear(s.Play.Heights)
	clear(s.Play.Figures)
	clear(s.Play.Scenes)
	for _, sizes := range s.Register.Hides {
		clear(sizes)
	}
	clear(s.Register.Kinds)
	clear(s.Register.Hides)
	clear(s.Chest.Figures)
}

// deeds are entries of all kinds that go at a desk of the suite s, one after the other.
func deeds() []api.DalangEntry {
	return []api.DalangEntry{entry(api.DalangWait, 5), entry(api.DalangBegin, 10), entry(api.DalangCue, 0, 0), entry(api.DalangKnock, 1), entry(api.DalangRest), entry(api.DalangCue, 0, 0), entry(api.DalangPlay, 1), entry(api.DalangLend, 2), entry(api.DalangUndo), entry(api.DalangLend, 4), entry(api.DalangBack, 4, 181, 99), entry(api.DalangPack, 0, 1, 1, 1, 2), entry(api.DalangUnpack), entry(api.DalangLend, 3), entry(api.DalangPlay, 0), entry(api.DalangBack, 3, 160, 100), entry(api.DalangPack, 0, 0, 1, 0, 2)}
}

// P10.11: what is changed in a suite after a desk was opened, in an entry after it was made, or in an answer, does not change the desk.
func TestMemory(t *testing.T) {
	s := suiteS()
	d := open(t, s)
	replayed, _, e := dalang.Replay(s, "")
	if e != api.OK {
		t.Fatal(e)
	}
	spoil(s)
	if dalang.Check(s) != api.ErrArg {
		t.Error("nothing was changed in the suite")
	}
	for _, d := range []*dalang.Desk{d, replayed} {
		untouched := open(t, suiteS())
		for _, x := range deeds() {
			enter(t, untouched, x)
			mine := entry(x.Kind, append(slices.Clone(x.Numbers), 7)[:len(x.Numbers)]...)
			enter(t, d, mine)
			for n := range mine.Numbers {
				mine.Numbers[n] = 999
			}
			for _, q := range questions(suiteS()) {
				y, _ := d.Ask(q)
				for n := range y {
					y[n] = 77
				}
				q.Numbers = append(q.Numbers, 0)
			}
			if one, other := wholeOf(d, suiteS()), wholeOf(untouched, suiteS()); one != other {
				t.Fatal(x, one, other)
			}
		}
	}
}

// P10.11, R4: no argument is changed.
func TestArguments(t *testing.T) {
	s := suiteS()
	d := open(t, s)
	for _, x := range deeds() {
		mine := entry(x.Kind, append(slices.Clone(x.Numbers), 7, 7)[:len(x.Numbers)]...)
		enter(t, d, mine)
		if y, e := dalang.Write(mine); e != api.OK || y != slowEntryLine(x) {
			t.Error(x, y, e)
		}
		if !slices.Equal(mine.Numbers, x.Numbers) || len(x.Numbers) > 0 && mine.Numbers[:len(x.Numbers)+2][len(x.Numbers)] != 7 {
			t.Error(x, mine, "an entry was changed")
		}
	}
	for _, q := range questions(s) {
		numbers := slices.Clone(q.Numbers)
		d.Ask(q)
		if !slices.Equal(q.Numbers, numbers) {
			t.Error(q, numbers, "a question was changed")
		}
	}
	dalang.Console(s, "begin 30\npack 0 0 1 0 2\nout 2\nunpack\nundo\nundo\nplay 0\nundo\nbest\nfirst 1\n")
	dalang.Replay(s, "begin 30\npack 0 0 1 0 2\n")
	if fmt.Sprint(s) != fmt.Sprint(suiteS()) {
		t.Error("the suite was changed", s)
	}
}

// P10.11: desks do not change each other, not even one that was copied.
func TestDesksApart(t *testing.T) {
	s := suiteS()
	one, other := open(t, s), open(t, s)
	empty := wholeOf(other, s)
	for n, x := range deeds() {
		enter(t, one, x)
		if wholeOf(other, s) != empty {
			t.Fatal(x)
		}
		copied := *one
		before := wholeOf(one, s)
		enter(t, &copied, entry(api.DalangUndo))
		enter(t, one, entry(api.DalangKnock, 0))
		if y, e := copied.Journal(); e != api.OK || y[len(y)-5:] != "undo\n" {
			t.Error(n, y, e)
		}
		enter(t, one, entry(api.DalangUndo))
		if answersOf(one, s, true) != before[len(before)-len(answersOf(one, s, true)):] {
			t.Error(n, before)
		}
		if len(deeds())-n > 1 {
			journal, _ := one.Journal()
			one, _, _ = dalang.Replay(s, journal[:len(journal)-len("knock 0\nundo\n")])
		}
	}
}

// R3: nil and empty lists are the same.
func TestNilAndEmpty(t *testing.T) {
	s := suiteS()
	s.Play.Scenes[3].Moved, s.Play.Scenes[0].Taken = l(), l()
	d := open(t, s)
	for _, none := range [][]int{nil, l()} {
		for _, x := range []struct {
			kind api.DalangKind
			want api.Errno
		}{{api.DalangKnock, api.ErrArg}, {api.DalangRest, api.ErrRule}, {api.DalangUndo, api.ErrRule}, {api.DalangPack, api.ErrRule}, {api.DalangUnpack, api.ErrRule}, {api.DalangBack, api.ErrArg}} {
			if e := d.Enter(api.DalangEntry{Kind: x.kind, Numbers: none}); e != x.want {
				t.Error(x, none, e)
			}
		}
		if y, e := dalang.Write(api.DalangEntry{Kind: api.DalangPack, Numbers: none}); e != api.OK || y != "pack" {
			t.Error(y, e)
		}
		mustAnswer(t, d, api.DalangQuestion{Kind: api.DalangHome, Numbers: none}, l(0, 1, 2, 3, 4), api.OK)
		mustAnswer(t, d, api.DalangQuestion{Kind: api.DalangCan, Numbers: none}, nil, api.ErrArg)
	}
}
