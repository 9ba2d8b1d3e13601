package branch_test

import (
	"math/rand/v2"
	"slices"
	"testing"

	"kelir/api"
	"kelir/branch"
	"kelir/night"
)

const (
	lacks = api.BranchFormula
	order = api.BranchOrder
	late  = api.BranchNight
	fits  = api.BranchFits
)

func verdicts(v ...api.BranchVerdict) []api.BranchVerdict { return v }

// still is a night on which only a play that may be left out whole can be played.
func still() api.BranchEvening { return evening(7, sp(7, 7), sp(7, 7), sp(7, 7)) }

// mixedStory has two plays, in one of which the Parts fall.
func mixedStory() api.BranchStory {
	return story(1, scenes(scene(0, 10, 20), scene(1, 10, 20)), rule(0, 2, 1), rule(0, 1, 2))
}

// battleStory has a play of four battles and so many more before a scene, and one of four scenes.
func battleStory(more int) api.BranchStory {
	return story(3, scenes(battle(0, 5, 10), scene(0, 1, 2)), rule(0, 1, 2, 4), rule(1, 3, 3, 3, 3), rule(2, slices.Repeat(l(3), more)...), rule(0, 4, 4, 4, 4))
}

// P9.4: the chapter's examples, and each verdict before those that come later.
func TestVerdicts(t *testing.T) {
	short := evening(0, sp(15, 15), sp(30, 30), sp(30, 30))
	for i, x := range []struct {
		s    api.BranchStory
		n    api.BranchEvening
		want []api.BranchVerdict
	}{
		{storyS(), nightN(), verdicts(fits, fits, late, late, late, late)}, {storyT(), nightN(), verdicts(fits, fits, lacks, late, late, lacks)},
		{storyS(), nightM(), verdicts(late, late, late, late, late, late)}, {storyT(), nightM(), verdicts(late, late, lacks, late, late, lacks)},
		{storyS(), beginning(nightN(), 30), verdicts(fits, fits, late, fits, fits, late)}, {storyS(), beginning(nightN(), 31), verdicts(late, late, late, late, late, late)},
		{deadStory(), nightN(), nil}, {longestStory(), nightN(), nil}, {smallStory(), nightN(), verdicts(late)}, {smallStory(), evening(0, sp(1, 1), sp(1, 1), sp(1, 1)), verdicts(fits)},
		{smallStory(), evening(899, sp(900, 900), sp(900, 900), sp(900, 900)), verdicts(fits)}, {smallStory(), evening(900, sp(900, 900), sp(900, 900), sp(900, 900)), verdicts(late)},
		// the Parts fall in the second play, whether it lasts as long or not
		{mixedStory(), short, verdicts(fits, order)}, {mixedStory(), nightN(), verdicts(late, order)},
		{with(mixedStory(), func(s *api.BranchStory) { s.Scenes[0].Part, s.Scenes[1].Part = 1, 2 }), nightN(), verdicts(late, order)},
		{with(mixedStory(), func(s *api.BranchStory) { s.Scenes[0].Part = 1 }), evening(0, sp(0, 0), sp(30, 30), sp(30, 30)), verdicts(fits, fits)},
		// a scene that is no Formula is not lacked
		{plain(1, 2, rule(0, 1), rule(0, 2)), evening(0, sp(1, 1), sp(1, 1), sp(1, 1)), verdicts(fits, fits)},
		{story(1, scenes(formula(scene(0, 1, 1)), scene(0, 1, 1)), rule(0, 1), rule(0, 2), rule(0, 1, 2), rule(0, 2, 2)), evening(0, sp(1, 1), sp(1, 1), sp(1, 1)), verdicts(fits, late, lacks, lacks)},
		// each Formula is asked for, also the last one, and one that no play has
		{story(1, scenes(scene(0, 1, 1), formula(scene(0, 1, 1)), formula(scene(0, 1, 1))), rule(0, 1), rule(0, 2), rule(0, 3), rule(0, 2, 3), rule(0, 3, 2)), evening(0, sp(2, 2), sp(2, 2), sp(2, 2)), verdicts(lacks, lacks, fits, lacks, fits)},
		{story(1, scenes(scene(0, 1, 1), formula(scene(0, 1, 1))), rule(0, 1)), evening(0, sp(1, 1), sp(1, 1), sp(1, 1)), verdicts(lacks)},
		// a Formula that is lacked comes before the order, and the order before the night
		{with(mixedStory(), func(s *api.BranchStory) { s.Scenes = append(s.Scenes, formula(scene(2, 1, 1))) }), short, verdicts(lacks, lacks)},
		{story(1, scenes(formula(scene(1, 1, 1)), scene(0, 1, 1)), rule(0, 1, 2), rule(0, 2, 2)), still(), verdicts(order, lacks)},
		// a Formula that is Loose is in a play also if it is left out on the night
		{story(1, scenes(formula(battle(0, 5, 5)), scene(0, 1, 1)), rule(0, 1, 2), rule(0, 2)), evening(0, sp(1, 1), sp(1, 1), sp(1, 1)), verdicts(fits, lacks)},
		{story(1, scenes(battle(0, 1, 240)), rule(0, 1), rule(0, 1, 1)), still(), verdicts(fits, fits)},
		// six Loose scenes are allowed, seven are too many, wherever they are
		{battleStory(2), evening(0, sp(1, 9), sp(1, 9), sp(1, 9)), verdicts(fits, fits)}, {battleStory(3), evening(0, sp(1, 9), sp(1, 9), sp(1, 9)), verdicts(order, fits)},
		{story(2, scenes(battle(0, 1, 1), battle(1, 1, 1), battle(2, 1, 1)), rule(0, 1, 1, 1), rule(1, 2, 2), rule(0, 2, 2, 3, 1), rule(0, 2, 3, 4, 4), rule(1, 3)), evening(0, sp(0, 9), sp(0, 9), sp(0, 9)), nil},
	} {
		want := x.want
		if want == nil {
			for _, play := range slowPlays(x.s) {
				want = append(want, slowVerdict(x.s, x.n, play))
			}
		}
		if y, e := branch.Verdicts(x.s, x.n); e != api.OK || !slices.Equal(y, want) {
			t.Error(i, y, want, e)
		}
	}
}

// P9.5: the chapter's examples, plays of which nothing is played, and the least and the greatest Begin of all plays.
func TestEveningAndBegins(t *testing.T) {
	loose := story(1, scenes(battle(0, 1, 240)), rule(0, 1))
	for i, x := range []struct {
		s                     api.BranchStory
		n                     api.BranchEvening
		play, choice, lengths []int
		e                     api.Errno
		begins                api.Span
		f                     api.Errno
	}{
		{storyS(), nightN(), l(0, 1, 2, 3, 4), l(0, 1, 2, 4), l(40, 20, 60, 60), api.OK, sp(0, 30), api.OK}, {storyS(), nightM(), nil, nil, nil, api.ErrNone, sp(0, 0), api.ErrNone}, {storyT(), nightN(), l(0, 1, 2, 3, 4), l(0, 1, 2, 4), l(40, 20, 60, 60), api.OK, sp(0, 30), api.OK},
		{storyS(), beginning(nightN(), 30), l(0, 1, 2, 3, 4), l(0, 2, 4), l(40, 50, 60), api.OK, sp(0, 30), api.OK}, {storyS(), beginning(nightN(), 31), nil, nil, nil, api.ErrNone, sp(0, 30), api.OK}, {storyS(), beginning(nightN(), 900), nil, nil, nil, api.ErrNone, sp(0, 30), api.OK},
		{deadStory(), nightN(), nil, nil, nil, api.ErrNone, sp(0, 0), api.ErrNone}, {smallStory(), evening(0, sp(1, 1), sp(1, 1), sp(1, 1)), l(0), l(0), l(1), api.OK, sp(0, 0), api.OK},
		{smallStory(), evening(0, sp(900, 900), sp(900, 900), sp(900, 900)), nil, nil, nil, api.ErrNone, sp(899, 899), api.OK}, {smallStory(), evening(0, sp(0, 0), sp(0, 0), sp(0, 0)), nil, nil, nil, api.ErrNone, sp(0, 0), api.ErrNone},
		// nothing is played, or the last minutes of all
		{loose, still(), l(0), nil, nil, api.OK, sp(0, 7), api.OK}, {loose, evening(0, sp(870, 900), sp(870, 900), sp(900, 900)), nil, nil, nil, api.ErrNone, sp(660, 900), api.OK}, {loose, evening(0, sp(900, 900), sp(870, 900), sp(870, 900)), nil, nil, nil, api.ErrNone, sp(660, 900), api.OK},
		// the first play does not fit, or not with this Begin
		{story(1, scenes(scene(0, 1, 1), scene(0, 5, 5), scene(0, 9, 9)), rule(0, 1), rule(0, 2), rule(0, 3)), evening(4, sp(10, 10), sp(10, 10), sp(10, 10)), nil, nil, nil, api.ErrNone, sp(1, 9), api.OK},
		{story(1, scenes(scene(0, 1, 1), scene(0, 5, 5), scene(0, 9, 9)), rule(0, 3), rule(0, 1), rule(0, 2)), evening(5, sp(10, 10), sp(10, 10), sp(10, 10)), l(1), l(0), l(5), api.OK, sp(1, 9), api.OK},
		// a Formula that is lacked, and Parts that fall, do not fit with any Begin
		{story(1, scenes(scene(0, 1, 1), formula(scene(0, 5, 5)), scene(0, 9, 9)), rule(0, 1), rule(0, 2), rule(0, 3)), evening(9, sp(10, 10), sp(10, 10), sp(10, 10)), nil, nil, nil, api.ErrNone, sp(5, 5), api.OK},
		{story(1, scenes(scene(1, 3, 3), scene(0, 5, 5)), rule(0, 1, 2), rule(0, 1)), evening(2, sp(0, 10), sp(10, 10), sp(10, 10)), nil, nil, nil, api.ErrNone, sp(7, 7), api.OK},
		{story(1, scenes(formula(scene(0, 1, 1)), formula(scene(0, 1, 1))), rule(0, 1), rule(0, 2)), evening(0, sp(1, 1), sp(1, 1), sp(1, 1)), nil, nil, nil, api.ErrNone, sp(0, 0), api.ErrNone},
		// the same scene more than once
		{story(1, scenes(battle(0, 2, 3), scene(2, 2, 2)), rule(0, 1, 2, 2), rule(0, 1, 1, 2)), evening(1, sp(5, 6), sp(5, 6), sp(8, 8)), l(0, 0, 1), l(0, 1, 2), l(2, 3, 2), api.OK, sp(0, 6), api.OK},
		{mixedStory(), evening(0, sp(15, 15), sp(30, 30), sp(30, 30)), l(0, 1), l(0, 1), l(15, 15), api.OK, sp(0, 5), api.OK},
	} {
		if a, b, c, e := branch.Evening(x.s, x.n); e != x.e || !slices.Equal(a, x.play) || !slices.Equal(b, x.choice) || !slices.Equal(c, x.lengths) {
			t.Error(i, a, b, c, e)
		}
		if y, e := branch.Begins(x.s, x.n); e != x.f || y != x.begins {
			t.Error(i, y, e)
		}
	}
}

// P9.6: the chapter's example; what all plays that fit have is not what all plays have, nor what is played.
func TestCommon(t *testing.T) {
	for i, x := range []struct {
		s    api.BranchStory
		n    api.BranchEvening
		want []api.BranchWord
		e    api.Errno
	}{
		{storyS(), nightN(), words(surely, surely, surely, may, surely), api.OK}, {storyT(), nightN(), words(surely, surely, surely, may, surely), api.OK}, {storyS(), nightM(), nil, api.ErrNone}, {deadStory(), nightN(), nil, api.ErrNone},
		{storyS(), beginning(nightN(), 30), words(surely, may, surely, may, surely), api.OK}, {storyS(), beginning(nightN(), 31), nil, api.ErrNone},
		{story(1, scenes(scene(0, 1, 1), scene(0, 5, 5), battle(0, 9, 9)), rule(0, 1), rule(0, 2, 3), rule(0, 3)), evening(5, sp(10, 10), sp(10, 10), sp(10, 10)), words(never, surely, surely), api.OK},
		{story(1, scenes(battle(0, 9, 9), scene(0, 1, 1)), rule(0, 1), rule(0, 2)), still(), words(surely, never), api.OK},
		{mixedStory(), evening(0, sp(15, 15), sp(30, 30), sp(30, 30)), words(surely, surely), api.OK},
	} {
		if y, e := branch.Common(x.s, x.n); e != x.e || !slices.Equal(y, x.want) {
			t.Error(i, y, e)
		}
	}
}

// P9.4, P9.5, P9.6, P0.9: generated stories and nights.
func TestNightsAreDefined(t *testing.T) {
	g := random(11)
	some := met{}
	for range 1500 {
		s := randomStory(g)
		n := randomNight(g, s)
		plays := slowPlays(s)
		var want []api.BranchVerdict
		for _, play := range plays {
			want = append(want, slowVerdict(s, n, play))
			some.note(want[len(want)-1])
		}
		if y, e := branch.Verdicts(s, n); e != api.OK || !slices.Equal(y, want) {
			t.Fatal(s, n, y, want, e)
		}
		checkFitting(t, s, n, slowFitting(s, n), some)
	}
	some.atLeast(t, 100, "1", "2", "3", "4", "none", "first true", "first false", "left out true", "left out false", "common 1", "common 2", "common 3")
}

// checkFitting compares Evening and Common with the plays that fit.
func checkFitting(t *testing.T, s api.BranchStory, n api.BranchEvening, fit [][]int, some met) {
	t.Helper()
	play, choice, lengths, e := branch.Evening(s, n)
	common, f := branch.Common(s, n)
	if len(fit) == 0 {
		some.note("none")
		if e != api.ErrNone || f != api.ErrNone || len(play)+len(choice)+len(lengths)+len(common) > 0 {
			t.Fatal(s, n, play, choice, lengths, common, e, f)
		}
		return
	}
	p := planOf(s, n, fit[0])
	wantChoice, wantLengths, _ := night.Programme(p)
	if e != api.OK || !slices.Equal(play, fit[0]) || !slices.Equal(choice, wantChoice) || !slices.Equal(lengths, wantLengths) {
		t.Fatal(s, n, play, choice, lengths, e)
	}
	if is, e := night.Fits(p, choice, lengths); e != api.OK || !is {
		t.Fatal(s, n, play, choice, lengths, is, e)
	}
	some.note("first ", slices.Equal(play, slowPlays(s)[0]))
	some.note("left out ", len(choice) < len(play))
	if f != api.OK || !slices.Equal(common, slowWords(s, fit)) {
		t.Fatal(s, n, common, f)
	}
	for _, word := range common {
		some.note("common ", word)
	}
}

// P9.5: generated stories and nights, with each Begin until the first window is over: a part never ends before the play begins.
func TestBeginsIsDefined(t *testing.T) {
	g := random(12)
	some := met{}
	for n := range 300 {
		s := randomStory(g)
		n := beginning(randomNight(g, s), []int{0, 3, 900}[n%3])
		var want []int
		for begin := 0; begin <= n.Stars[0].High; begin++ {
			if len(slowFitting(s, beginning(n, begin))) > 0 {
				want = append(want, begin)
			}
		}
		y, e := branch.Begins(s, n)
		if len(want) == 0 {
			some.note("none")
			if e != api.ErrNone || y != (api.Span{}) {
				t.Fatal(s, n, y, e)
			}
			continue
		}
		some.note("one ", y.Low == y.High)
		some.note("each ", y.High-y.Low+1 == len(want))
		if e != api.OK || y != sp(want[0], want[len(want)-1]) {
			t.Fatal(s, n, y, want, e)
		}
		for _, begin := range l(y.Low, y.High) {
			if _, _, _, e := branch.Evening(s, beginning(n, begin)); e != api.OK {
				t.Fatal(s, n, begin, e)
			}
		}
		for _, begin := range l(y.Low-1, y.High+1, 900) {
			if _, _, _, e := branch.Evening(s, beginning(n, begin)); e == api.OK {
				t.Fatal(s, n, begin, e)
			}
		}
	}
	some.atLeast(t, 5, "none", "one true", "one false", "each true", "each false")
}

// P9.4: whatever programme somebody proposes for a play that has all formulas, and fits, the play fits the night.
func TestWhateverProgrammeIsProposed(t *testing.T) {
	g := random(13)
	some := met{}
	for range 1000 {
		s := randomStory(g)
		n := randomNight(g, s)
		plays, _ := branch.Plays(s)
		got, _ := branch.Verdicts(s, n)
		for i, play := range plays {
			for range 10 {
				choice, lengths := propose(g, s, play)
				is, e := night.Fits(planOf(s, n, play), choice, lengths)
				if !is || e != api.OK {
					continue
				}
				all := slowVerdict(s, n, play) != lacks
				some.note("has all ", all)
				if all != (got[i] == fits) {
					t.Fatal(s, n, play, choice, lengths, got[i])
				}
			}
		}
	}
	some.atLeast(t, 200, "has all true", "has all false")
}

// propose returns some choice of a play, with some lengths.
func propose(g *rand.Rand, s api.BranchStory, play []int) (choice, lengths []int) {
	for n, k := range play {
		x := s.Scenes[k]
		if !x.Loose || g.IntN(2) == 0 {
			choice = append(choice, n)
			lengths = append(lengths, x.Least+g.IntN(x.Most-x.Least+1))
		}
	}
	return choice, lengths
}
