package dalang_test

import (
	"fmt"
	"math"
	"slices"
	"strings"
	"testing"

	"kelir/api"
	"kelir/dalang"
)

// P10.1: suites that are as defined, and those that are not.
func TestCheckAndOpen(t *testing.T) {
	for i, s := range []api.DalangSuite{
		suiteS(), greatSuite(),
		with(suiteS(), func(s *api.DalangSuite) { s.Plan.Begin = 30 }),
		// What cannot be played, told apart or packed is as defined.
		with(suiteS(), func(s *api.DalangSuite) { s.Play.Scenes[2].Taken = l(2) }),
		with(suiteS(), func(s *api.DalangSuite) { s.Chest.Room = 1 }),
		with(suiteS(), func(s *api.DalangSuite) { s.Register.Hides[1] = l(100, 100) }),
		with(suiteS(), func(s *api.DalangSuite) { s.Book.Versions = s.Book.Versions[:1] }),
		with(suiteS(), func(s *api.DalangSuite) {
			s.Play.Figures, s.Register.Hides, s.Chest.Figures = s.Play.Figures[:1], s.Register.Hides[:1], s.Chest.Figures[:1]
			s.Play.Scenes = []api.StemScene{{}}
		}),
	} {
		if e := dalang.Check(s); e != api.OK {
			t.Error(i, e)
		}
		d := open(t, s)
		mustAnswer(t, d, question(api.DalangStands), nil, api.OK)
		mustAnswer(t, d, question(api.DalangNight), l(0), api.OK)
		if y, e := d.Journal(); e != api.OK || y != "" {
			t.Error(i, y, e)
		}
	}
	for i, s := range badSuites() {
		if e := dalang.Check(s); e != api.ErrArg {
			t.Error(i, e)
		}
		if d, e := dalang.Open(s); e != api.ErrArg || d != nil {
			t.Error(i, d, e)
		}
	}
}

// P10.1 to P10.3, P10.9: a nil desk, and a zero one, also for what is not as defined.
func TestNilDesk(t *testing.T) {
	for i, d := range []*dalang.Desk{nil, {}, new(dalang.Desk)} {
		for _, x := range append(badEntries(), entry(api.DalangWait, 1), entry(api.DalangUndo)) {
			if e := d.Enter(x); e != api.ErrNil {
				t.Error(i, x, e)
			}
		}
		for _, q := range append(badQuestions(), questions(suiteS())...) {
			if y, e := d.Ask(q); e != api.ErrNil || len(y) > 0 {
				t.Error(i, q, y, e)
			}
		}
		if y, e := d.Journal(); e != api.ErrNil || y != "" {
			t.Error(i, y, e)
		}
	}
}

// P10.2: each kind of entries, at a desk without others.
func TestFirstEntries(t *testing.T) {
	for i, x := range []struct {
		entry api.DalangEntry
		want  api.Errno
	}{
		{entry(api.DalangWait, 0), api.ErrRule}, {entry(api.DalangWait, 1), api.OK}, {entry(api.DalangWait, 100), api.OK}, {entry(api.DalangWait, 101), api.ErrRule}, {entry(api.DalangWait, 1000), api.ErrRule},
		{entry(api.DalangBegin, 0), api.OK}, {entry(api.DalangBegin, 30), api.OK}, {entry(api.DalangBegin, 31), api.ErrRule}, {entry(api.DalangBegin, 900), api.ErrRule}, {entry(api.DalangBegin, 1000), api.ErrRule},
		{entry(api.DalangCue, 0, 0), api.OK}, {entry(api.DalangCue, 0, 1), api.OK}, {entry(api.DalangCue, 0, 2), api.ErrRule}, {entry(api.DalangCue, 1, 0), api.ErrRule}, {entry(api.DalangCue, 2, 0), api.ErrRule}, {entry(api.DalangCue, 0, 3), api.ErrRule}, {entry(api.DalangCue, 1000, 1000), api.ErrRule},
		{entry(api.DalangKnock, 0), api.OK}, {entry(api.DalangKnock, 1), api.OK}, {entry(api.DalangKnock, 2), api.ErrRule}, {entry(api.DalangKnock, 1000), api.ErrRule},
		{entry(api.DalangRest), api.ErrRule},
		{entry(api.DalangPlay, 0), api.OK}, {entry(api.DalangPlay, 3), api.OK}, {entry(api.DalangPlay, 4), api.ErrRule}, {entry(api.DalangPlay, 1000), api.ErrRule},
		{entry(api.DalangLend, 0), api.OK}, {entry(api.DalangLend, 4), api.OK}, {entry(api.DalangLend, 5), api.ErrRule}, {entry(api.DalangLend, 1000), api.ErrRule},
		{entry(api.DalangBack, 0, 100, 100), api.ErrRule}, {entry(api.DalangBack, 1000, 100), api.ErrRule},
		{entry(api.DalangPack, 0, 0, 1, 0, 2), api.OK}, {entry(api.DalangPack, 0, 1, 1, 1, 2), api.OK}, {entry(api.DalangPack, 0, 0, 1, 1, 2), api.ErrRule}, {entry(api.DalangPack), api.ErrRule}, {entry(api.DalangPack, 0, 0, 1, 0), api.ErrRule}, {entry(api.DalangPack, 0, 0, 1, 0, 2, 2), api.ErrRule}, {entry(api.DalangPack, 0, 0, 1, 0, 3), api.ErrRule}, {entry(api.DalangPack, 0, 0, 1, 0, 1000), api.ErrRule},
		{entry(api.DalangUnpack), api.ErrRule}, {entry(api.DalangUndo), api.ErrRule},
	} {
		d := open(t, suiteS())
		before := wholeOf(d, suiteS())
		if e := d.Enter(x.entry); e != x.want {
			t.Error(i, x, e)
		}
		if x.want != api.OK && wholeOf(d, suiteS()) != before {
			t.Error(i, x, "a desk was changed with an error")
		}
	}
}

// P10.2: entries that are not formed come first, then the number of entries, then whether they go.
func TestErrorsOfEntries(t *testing.T) {
	d := open(t, suiteS())
	for n := range 24 {
		for i, x := range badEntries() {
			if e := d.Enter(x); e != api.ErrArg {
				t.Fatal(n, i, x, e)
			}
		}
		if e := d.Enter(entry(api.DalangLend, 5)); e != api.ErrRule {
			t.Fatal(n, e)
		}
		// An undo is an entry, too.
		x := entry(api.DalangWait, 1)
		if n%3 == 2 {
			x = entry(api.DalangUndo)
		}
		enter(t, d, x)
	}
	before := wholeOf(d, suiteS())
	for i, x := range badEntries() {
		if e := d.Enter(x); e != api.ErrArg {
			t.Error(i, x, e)
		}
	}
	for _, x := range []api.DalangEntry{entry(api.DalangWait, 1), entry(api.DalangUndo), entry(api.DalangLend, 5), entry(api.DalangUnpack)} {
		if e := d.Enter(x); e != api.ErrLong {
			t.Error(x, e)
		}
	}
	if wholeOf(d, suiteS()) != before {
		t.Error("a desk was changed with an error")
	}
	mustAnswer(t, d, question(api.DalangNight), l(8), api.OK)
	mustAnswer(t, d, question(api.DalangStands), l(0, 3, 6, 9, 12, 15, 18, 21), api.OK)
	// It still can be asked what would go.
	mustAnswer(t, d, question(api.DalangCan, 0), l(1), api.OK)
}

// P10.3: what is no question, and the errors that depend on what stands.
func TestErrorsOfQuestions(t *testing.T) {
	d := open(t, suiteS())
	for _, x := range []api.DalangEntry{entry(api.DalangWait, 1), entry(api.DalangPack, 0, 0, 1, 0, 2)} {
		enter(t, d, x)
		for _, q := range badQuestions() {
			mustAnswer(t, d, q, nil, api.ErrArg)
		}
	}
	mustAnswer(t, d, question(api.DalangOut, 2), l(0, 1, 3), api.OK)
	mustAnswer(t, d, question(api.DalangOut, 4), l(0, 1, 2, 3), api.OK)
	mustAnswer(t, d, question(api.DalangOut, 0), nil, api.OK)
	enter(t, d, entry(api.DalangUnpack))
	for n := range 5 {
		mustAnswer(t, d, question(api.DalangOut, n), nil, api.ErrRule)
	}
	// The scene 2 has no arrangement, the scene 3 needs a hand too many, and nothing can be packed; two versions are told apart by no cue.
	s := with(suiteS(), func(s *api.DalangSuite) {
		s.Play.Scenes[2].Taken = l(2)
		s.Play.Scenes[3].Moved, s.Play.Scenes[3].Knocks = l(3), 2
		s.Chest.Room = 1
	})
	d = open(t, s)
	enter(t, d, entry(api.DalangCue, 1, 1), entry(api.DalangCue, 0, 0), entry(api.DalangCue, 0, 0))
	mustAnswer(t, d, question(api.DalangFirst, 2), nil, api.ErrNone)
	mustAnswer(t, d, question(api.DalangFirst, 3), l(2), api.OK)
	mustAnswer(t, d, question(api.DalangBest), nil, api.ErrNone)
	mustAnswer(t, d, question(api.DalangAsk), nil, api.ErrNone)
	for _, n := range l(2, 3) {
		mustAnswer(t, d, question(api.DalangCan, n), l(0), api.OK)
		if e := d.Enter(entry(api.DalangPlay, n)); e != api.ErrRule {
			t.Error(n, e)
		}
	}
}

// P10.4: the plan stays possible, and what is answered is what layer 3 returns.
func TestNights(t *testing.T) {
	d := open(t, suiteS())
	enter(t, d, entry(api.DalangWait, 60), entry(api.DalangBegin, 30), entry(api.DalangBegin, 10), entry(api.DalangWait, 40))
	mustAnswer(t, d, question(api.DalangNight), l(100), api.OK)
	mustAnswer(t, d, question(api.DalangProgramme), l(0, 1, 2, 4), api.OK)
	for begin := 31; begin <= 1000; begin++ {
		if e := d.Enter(entry(api.DalangBegin, begin)); e != api.ErrRule {
			t.Fatal(begin, e)
		}
	}
	enter(t, d, entry(api.DalangBegin, 11))
	mustAnswer(t, d, question(api.DalangProgramme), l(0, 2, 4), api.OK)
	mustAnswer(t, d, question(api.DalangEnds), l(60, 61, 120, 121, 180, 191), api.OK)
	if e := d.Enter(entry(api.DalangWait, 1)); e != api.ErrRule {
		t.Error(e)
	}
	// A plan that begins at 900 is as defined.
	late := with(suiteS(), func(s *api.DalangSuite) {
		s.Plan = api.NightPlan{Begin: 880, Stars: [2]api.Span{sp(870, 900), sp(870, 900)}, Dawn: sp(900, 900), Scenes: []api.NightScene{{Part: 2, Least: 1, Most: 240, Loose: true, Wants: -1}}}
	})
	d = open(t, late)
	enter(t, d, entry(api.DalangBegin, 900))
	mustAnswer(t, d, question(api.DalangProgramme), nil, api.OK)
	if e := d.Enter(entry(api.DalangBegin, 901)); e != api.ErrRule {
		t.Error(e)
	}
}

// P10.5: evenings as long and as many as there may be, and what is going on after them.
func TestCues(t *testing.T) {
	d := open(t, suiteS())
	for n := range 4 {
		for range 2 * n % 3 {
			enter(t, d, entry(api.DalangKnock, n%2))
		}
		enter(t, d, entry(api.DalangKnock, 0), entry(api.DalangRest))
		if e := d.Enter(entry(api.DalangRest)); e != api.ErrRule {
			t.Error(n, e)
		}
	}
	mustAnswer(t, d, question(api.DalangRemains), l(0, 1, 2, 3), api.OK)
	mustAnswer(t, d, question(api.DalangAsk), l(0, 4), api.OK)
	mustAnswer(t, d, question(api.DalangNever, 2), nil, api.OK)
	enter(t, d, entry(api.DalangCue, 0, 0))
	if e := d.Enter(entry(api.DalangRest)); e != api.ErrRule {
		t.Error("a fifth evening", e)
	}
	mustAnswer(t, d, question(api.DalangRemains), l(0, 1, 2), api.OK)
	mustAnswer(t, d, question(api.DalangNever, 2), l(0), api.OK)
	enter(t, d, entry(api.DalangKnock, 1), entry(api.DalangCue, 0, 2))
	mustAnswer(t, d, question(api.DalangRemains), l(0), api.OK)
	mustAnswer(t, d, question(api.DalangAsk), l(-1, 0), api.OK)
	d = open(t, suiteS())
	enter(t, d, slices.Repeat([]api.DalangEntry{entry(api.DalangKnock, 1)}, 8)...)
	for _, x := range []api.DalangEntry{entry(api.DalangKnock, 1), entry(api.DalangCue, 1, 1)} {
		if e := d.Enter(x); e != api.ErrRule {
			t.Error("a ninth cue", x, e)
		}
	}
	enter(t, d, entry(api.DalangRest), entry(api.DalangCue, 1, 1))
}

// P10.5: what was noted on an evening before settles what can be heard.
func TestCuesOfAllEvenings(t *testing.T) {
	d := open(t, suiteS())
	enter(t, d, entry(api.DalangCue, 0, 0), entry(api.DalangCue, 0, 2), entry(api.DalangRest))
	mustAnswer(t, d, question(api.DalangRemains), l(0, 1), api.OK)
	mustAnswer(t, d, question(api.DalangAsk), l(0, 3), api.OK)
	if e := d.Enter(entry(api.DalangCue, 0, 1)); e != api.ErrRule {
		t.Error(e)
	}
	enter(t, d, entry(api.DalangCue, 0, 0), entry(api.DalangCue, 1, 1))
	mustAnswer(t, d, question(api.DalangAsk), l(0, 1), api.OK)
	enter(t, d, entry(api.DalangCue, 0, 0), entry(api.DalangRest))
	mustAnswer(t, d, question(api.DalangRemains), l(1), api.OK)
	// The version 0 agrees with the first evening, and would agree with this one.
	enter(t, d, entry(api.DalangCue, 0, 0), entry(api.DalangCue, 1, 1))
	if e := d.Enter(entry(api.DalangCue, 0, 2)); e != api.ErrRule {
		t.Error(e)
	}
	enter(t, d, entry(api.DalangUndo), entry(api.DalangUndo), entry(api.DalangUndo), entry(api.DalangCue, 0, 2), entry(api.DalangUndo))
	mustAnswer(t, d, question(api.DalangStands), l(0, 1, 2, 3, 4, 5), api.OK)
	enter(t, d, entry(api.DalangRest))
	mustAnswer(t, d, question(api.DalangRemains), l(1), api.OK)
}

// P10.6: figures that are away, and a chest that is packed.
func TestFigures(t *testing.T) {
	d := open(t, suiteS())
	refuse := func(list ...api.DalangEntry) {
		t.Helper()
		for _, x := range list {
			if e := d.Enter(x); e != api.ErrRule {
				t.Error(x, e)
			}
		}
	}
	enter(t, d, entry(api.DalangPlay, 0), entry(api.DalangLend, 4))
	mustAnswer(t, d, question(api.DalangHome), l(0, 1, 2, 3), api.OK)
	// 4 rests in the scenes 1 and 2.
	refuse(entry(api.DalangPlay, 1), entry(api.DalangPlay, 2), entry(api.DalangLend, 4), entry(api.DalangPack, 0, 0, 1, 0, 2))
	for n, want := range l(1, 0, 0, 1) {
		mustAnswer(t, d, question(api.DalangCan, n), l(want), api.OK)
	}
	enter(t, d, entry(api.DalangPlay, 3), entry(api.DalangLend, 2))
	// 2 is moved in the scene 0, and rests in the others.
	refuse(entry(api.DalangPlay, 0), entry(api.DalangPlay, 3))
	// Of 180 the first measure is 177.2 to 182.8, whatever the damp, of 140 it is 137.6 to 142.4; the second one is 98 to 102 for both.
	refuse(entry(api.DalangBack, 4, 140, 100), entry(api.DalangBack, 4, 177, 100), entry(api.DalangBack, 4, 183, 100), entry(api.DalangBack, 4, 180, 97), entry(api.DalangBack, 4, 180, 103), entry(api.DalangBack, 4, 180), entry(api.DalangBack, 4, 180, 100, 100), entry(api.DalangBack, 3, 160, 100), entry(api.DalangBack, 5, 180, 100), entry(api.DalangBack, 1000, 180, 100))
	enter(t, d, entry(api.DalangBack, 4, 178, 102), entry(api.DalangBack, 2, 142, 98))
	mustAnswer(t, d, question(api.DalangHome), l(0, 1, 2, 3, 4), api.OK)
	refuse(entry(api.DalangBack, 4, 180, 100))
	enter(t, d, entry(api.DalangPack, 0, 1, 1, 1, 2))
	refuse(entry(api.DalangPlay, 0), entry(api.DalangLend, 0), entry(api.DalangPack, 0, 1, 1, 1, 2), entry(api.DalangPack, 0, 0, 1, 0, 2))
	mustAnswer(t, d, question(api.DalangOut, 2), l(0), api.OK)
	mustAnswer(t, d, question(api.DalangCan, 0), l(0), api.OK)
	mustAnswer(t, d, question(api.DalangHome), l(0, 1, 2, 3, 4), api.OK)
	enter(t, d, entry(api.DalangWait, 1), entry(api.DalangBegin, 30), entry(api.DalangKnock, 0), entry(api.DalangRest), entry(api.DalangUnpack))
	refuse(entry(api.DalangUnpack))
	enter(t, d, entry(api.DalangPlay, 1), entry(api.DalangPack, 0, 0, 1, 0, 2), entry(api.DalangUndo), entry(api.DalangLend, 0))
	mustAnswer(t, d, question(api.DalangPlayed), l(0, 3, 1), api.OK)
}

// P10.6: with mends, a hide that others can be mistaken for may come back.
func TestBackWithMends(t *testing.T) {
	s := with(suiteS(), func(s *api.DalangSuite) { s.Register.Mends = 1 })
	for i, x := range []struct {
		numbers []int
		want    api.Errno
	}{{l(2, 999, 100), api.OK}, {l(2, 140, 0), api.OK}, {l(2, 999, 0), api.ErrRule}, {l(2, 0, 1000), api.ErrRule}, {l(2, 100, 100), api.OK}, {l(3, 100, 100), api.ErrRule}} {
		d := open(t, s)
		enter(t, d, entry(api.DalangLend, 2))
		if e := d.Enter(entry(api.DalangBack, x.numbers...)); e != x.want {
			t.Error(i, x, e)
		}
	}
}

// desks are random ones, with entries that go and that do not, as slow ones make them.
func desks(t *testing.T, seed uint64, many, entries int, each func(s api.DalangSuite, d *dalang.Desk, slowly *slow, x api.DalangEntry)) {
	g := random(seed)
	for range many {
		s := randomSuite(g)
		d, slowly := open(t, s), &slow{s: s}
		for range entries {
			each(s, d, slowly, randomEntry(g, s))
		}
	}
}

// P10.2, P10.3, P10.4, P10.5, P10.6: all entries and answers are what the chapter says.
func TestAgainstSlow(t *testing.T) {
	some := met{}
	desks(t, 1, 250, 60, func(s api.DalangSuite, d *dalang.Desk, slowly *slow, x api.DalangEntry) {
		want := slowly.enter(x)
		if e := d.Enter(x); e != want {
			t.Fatal(s, slowly.entries, x, e, want)
		}
		some.note(x.Kind, " ", want)
		for _, q := range questions(s)[2:] {
			want, wanted := slowly.ask(q)
			y, e := d.Ask(q)
			if e != wanted || !slices.Equal(y, want) {
				t.Fatal(s, slowly.entries, q, y, e, want, wanted)
			}
			some.note("asked ", q.Kind, " ", e)
		}
	})
	for kind := api.DalangWait; kind <= api.DalangUndo; kind++ {
		some.atLeast(t, 20, fmt.Sprint(kind, " ", 0), fmt.Sprint(kind, " ", 3), fmt.Sprint(kind, " ", 7))
	}
	for kind := api.DalangNight; kind <= api.DalangStands; kind++ {
		some.atLeast(t, 100, fmt.Sprint("asked ", kind, " ", 0))
	}
	some.atLeast(t, 100, "asked 5 5", "asked 6 2", "asked 9 2", "asked 10 2", "asked 10 5", "asked 11 2", "asked 11 7", "asked 12 5")
}

// P10.2, P10.3: an entry that does not go, and a question, change nothing.
func TestNothingChanges(t *testing.T) {
	some := met{}
	desks(t, 2, 150, 20, func(s api.DalangSuite, d *dalang.Desk, slowly *slow, x api.DalangEntry) {
		before := wholeOf(d, s)
		if again := wholeOf(d, s); again != before {
			t.Fatal(s, slowly.entries, before, again)
		}
		e := d.Enter(x)
		if e == api.OK {
			slowly.entries = append(slowly.entries, x)
		} else if after := wholeOf(d, s); after != before {
			t.Fatal(s, slowly.entries, x, before, after)
		}
		some.note(e)
	})
	some.atLeast(t, 500, "0", "7")
}

// P10.7: an undo takes back what was entered last, and nothing else.
func TestUndo(t *testing.T) {
	some := met{}
	desks(t, 3, 150, 22, func(s api.DalangSuite, d *dalang.Desk, slowly *slow, x api.DalangEntry) {
		before := answersOf(d, s, true)
		if d.Enter(x) != api.OK {
			return
		}
		slowly.entries = append(slowly.entries, x)
		some.note("changed ", answersOf(d, s, false) != before)
		if x.Kind == api.DalangUndo || d.Enter(entry(api.DalangUndo)) != api.OK {
			return
		}
		slowly.entries = append(slowly.entries, entry(api.DalangUndo))
		if after := answersOf(d, s, true); after != before {
			t.Fatal(s, slowly.entries, before, after)
		}
		some.note(x.Kind)
		// Otherwise the desk would stay as it was at the beginning.
		if d.Enter(x) == api.OK {
			slowly.entries = append(slowly.entries, x)
		}
	})
	some.atLeast(t, 20, "changed true", "1", "2", "3", "4", "5", "6", "7", "8", "9", "10")
}

// P10.7: all entries that stand could have been made without the others.
func TestWithoutOthers(t *testing.T) {
	some := met{}
	desks(t, 4, 200, 30, func(s api.DalangSuite, d *dalang.Desk, slowly *slow, x api.DalangEntry) {
		if d.Enter(x) != api.OK {
			return
		}
		slowly.entries = append(slowly.entries, x)
		numbers, e := d.Ask(question(api.DalangStands))
		if e != api.OK || !slices.Equal(numbers, slowly.numbers()) {
			t.Fatal(slowly.entries, numbers, e)
		}
		other := open(t, s)
		for _, n := range numbers {
			enter(t, other, slowly.entries[n])
		}
		if one, two := answersOf(d, s, false), answersOf(other, s, false); one != two {
			t.Fatal(s, slowly.entries, one, two)
		}
		some.note("all ", len(numbers) == len(slowly.entries))
	})
	some.atLeast(t, 200, "all true", "all false")
}

// P10.7: undos one after the other take back all entries, the last one first.
func TestUndoAll(t *testing.T) {
	d := open(t, suiteS())
	list := []api.DalangEntry{entry(api.DalangWait, 5), entry(api.DalangBegin, 30), entry(api.DalangCue, 0, 0), entry(api.DalangRest), entry(api.DalangKnock, 1), entry(api.DalangPlay, 1), entry(api.DalangLend, 3), entry(api.DalangBack, 3, 160, 100), entry(api.DalangPack, 0, 0, 1, 0, 2), entry(api.DalangUnpack), entry(api.DalangLend, 0)}
	var before []string
	for _, x := range list {
		before = append(before, answersOf(d, suiteS(), true))
		enter(t, d, x)
	}
	for n := len(list) - 1; n >= 0; n-- {
		enter(t, d, entry(api.DalangUndo))
		if y := answersOf(d, suiteS(), true); y != before[n] {
			t.Error(n, y, before[n])
		}
	}
	if e := d.Enter(entry(api.DalangUndo)); e != api.ErrRule {
		t.Error(e)
	}
	enter(t, d, entry(api.DalangWait, 7))
	mustAnswer(t, d, question(api.DalangStands), l(22), api.OK)
	enter(t, d, entry(api.DalangUndo))
	if y, e := d.Journal(); e != api.OK || !strings.HasSuffix(y, "lend 0\n"+strings.Repeat("undo\n", 11)+"wait 7\nundo\n") {
		t.Error(y, e)
	}
}

// P0.1: entries and questions of any kind and with any numbers have a result.
func TestAnyArguments(t *testing.T) {
	g := random(5)
	numbers := l(math.MinInt, -1, 0, 0, 0, 1, 1, 2, 3, 4, 5, 6, 100, 100, 140, 1000, 1001, math.MaxInt)
	kinds := l(math.MinInt, -1, 0, 1, 2, 3, 4, 5, 6, 7, 8, 9, 10, 11, 12, 13, 14, math.MaxInt)
	seen := met{}
	for range 300 {
		s := randomSuite(g)
		if g.IntN(10) == 0 {
			s = badSuites()[g.IntN(len(badSuites()))]
		}
		d, e := dalang.Open(s)
		if (d == nil) != (e != api.OK) || e != dalang.Check(s) {
			t.Fatal(s, e)
		}
		for range 60 {
			var list []int
			for range g.IntN(4) {
				list = append(list, numbers[g.IntN(len(numbers))])
			}
			kind := kinds[g.IntN(len(kinds))]
			e := d.Enter(entry(api.DalangKind(kind), list...))
			seen.note("entered ", e)
			line, f := dalang.Write(entry(api.DalangKind(kind), list...))
			if d != nil && (e == api.ErrArg) != (f == api.ErrArg) || (f == api.OK) != (line != "") {
				t.Fatal(kind, list, e, line, f)
			}
			y, e := d.Ask(question(api.DalangTopic(kind), list...))
			seen.note("asked ", e)
			if e != api.OK && len(y) > 0 {
				t.Fatal(kind, list, y, e)
			}
		}
	}
	seen.atLeast(t, 20, "entered 0", "entered 1", "entered 2", "entered 7", "asked 0", "asked 1", "asked 2", "asked 5", "asked 7")
}
