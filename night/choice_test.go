package night_test

import (
	"math"
	"slices"
	"testing"

	"kelir/api"
	"kelir/night"
)

// P3.1.
func TestCheck(t *testing.T) {
	for i, p := range []api.NightPlan{
		planP(), planQ(), calmPlan(), restPlan(), greatestPlan(),
		plan(0, span(0, 0), span(0, 30), span(870, 900), scene(2, 240, 240)),
		plan(900, span(900, 900), span(870, 900), span(0, 0), battle(0, 1, 240)),
		// scenes may want one that wants them, and windows need no order
		plan(0, span(9, 9), span(0, 3), span(5, 6), wanting(battle(0, 1, 1), 1), wanting(scene(2, 1, 1), 0)),
		plan(0, span(0, 30), span(0, 30), span(0, 30), append(slices.Repeat([]api.NightScene{battle(1, 1, 1)}, 6), wanting(scene(1, 1, 1), 0))...),
	} {
		if e := night.Check(p); e != api.OK {
			t.Error(i, e)
		}
	}
	for i, p := range badPlans() {
		if e := night.Check(p); e != api.ErrArg {
			t.Error(i, p, e)
		}
	}
}

// P3.1: the chapter's examples, and lists that are no choices.
func TestAllowed(t *testing.T) {
	tied := with(planP(), func(p *api.NightPlan) { p.Scenes[0].Wants = 3 })
	for i, x := range []struct {
		p    api.NightPlan
		list []int
		want bool
	}{
		{planP(), l(0, 1, 2, 4), true}, {planP(), l(0, 2, 4), true}, {planP(), l(0, 1, 2, 3, 4), true}, {planP(), l(0, 2, 3, 4), false}, {planP(), l(0, 1, 2), false},
		// the scene 0 wants the battle 3, which wants the battle 1
		{tied, l(0, 1, 2, 3, 4), true}, {tied, l(0, 1, 2, 4), false}, {tied, l(0, 2, 3, 4), false}, {tied, l(0, 2, 4), false},
		{restPlan(), nil, true}, {restPlan(), l(), true}, {restPlan(), l(1), true}, {restPlan(), l(0, 1), true},
	} {
		if y, e := night.Allowed(x.p, x.list); e != api.OK || y != x.want {
			t.Error(i, y, e)
		}
	}
	for i, list := range noChoices() {
		if y, e := night.Allowed(planP(), list); e != api.OK || y {
			t.Error(i, y, e)
		}
	}
	for i, list := range badLists() {
		if y, e := night.Allowed(planP(), list); e != api.ErrArg || y {
			t.Error(i, y, e)
		}
	}
}

// P3.1: against the definition.
func TestAllowedIsDefined(t *testing.T) {
	g := random(1)
	for range 300 {
		p := randomPlan(g)
		for _, list := range subsets(len(p.Scenes)) {
			if y, e := night.Allowed(p, list); e != api.OK || y != slowIsChoice(p, list) {
				t.Fatal(p, list, y, e)
			}
		}
	}
}

// P3.1: the chapter's examples, the ends of windows, and lists that are no programmes.
func TestFits(t *testing.T) {
	for i, x := range []struct {
		choice, lengths []int
		want            bool
	}{
		{l(0, 1, 2, 4), l(40, 20, 60, 60), true}, {l(0, 1, 2, 4), l(40, 20, 50, 70), false}, {l(0, 1, 2, 4), l(50, 20, 60, 70), true}, {l(0, 1, 2, 4), l(50, 21, 60, 60), false},
		{l(0, 1, 2, 4), l(40, 20, 60, 59), false}, {l(0, 1, 2, 4), l(45, 25, 50, 60), true}, {l(0, 1, 2, 4), l(40, 20, 59, 70), false}, {l(0, 2, 4), l(50, 60, 70), false},
		{l(0, 1, 2, 3, 4), l(40, 20, 50, 30, 55), false},
	} {
		if y, e := night.Fits(planP(), x.choice, x.lengths); e != api.OK || y != x.want {
			t.Error(i, y, e)
		}
	}
	for i, lengths := range [][]int{
		nil, {}, l(40), l(40, 20, 60), l(40, 20, 60, 60, 1), l(39, 21, 60, 60), l(51, 20, 60, 60), l(40, 20, 61, 60), l(40, 20, 60, 54), l(40, 20, 60, 71),
		l(0, 20, 60, 60), l(math.MinInt, 20, 60, 60), l(40, 20, 60, math.MaxInt), l(-40, 20, 60, 60),
	} {
		if y, e := night.Fits(planP(), l(0, 1, 2, 4), lengths); e != api.ErrArg || y {
			t.Error(i, y, e)
		}
	}
	for i, choice := range slices.Concat(badLists(), noChoices()) {
		var lengths []int
		for _, n := range choice {
			if n >= 0 && n < 5 {
				lengths = append(lengths, planP().Scenes[n].Least)
			} else {
				lengths = append(lengths, 1)
			}
		}
		if y, e := night.Fits(planP(), choice, lengths); e != api.ErrArg || y {
			t.Error(i, y, e)
		}
	}
	if y, e := night.Fits(restPlan(), nil, nil); e != api.OK || !y {
		t.Error(y, e)
	}
	if y, e := night.Fits(with(restPlan(), func(p *api.NightPlan) { p.Begin = 4 }), l(), l()); e != api.OK || y {
		t.Error(y, e)
	}
}

// P3.1, P3.2: against all programmes.
func TestChoicesAreDefined(t *testing.T) {
	onPlans(t, 2, 300, func(p api.NightPlan, shows []show) {
		var possible [][]int
		for _, choice := range slowChoices(p) {
			fitting := 0
			for _, s := range slowShows(p, choice) {
				if y, e := night.Fits(p, choice, s.lengths); e != api.OK || y != s.fits(p) {
					t.Fatal(p, s, y, e)
				} else if y {
					fitting++
				}
			}
			if y, e := night.Can(p, choice); e != api.OK || y != (fitting > 0) {
				t.Fatal(p, choice, y, e)
			}
			if fitting > 0 {
				possible = append(possible, choice)
			}
		}
		if y, e := night.Choices(p); e != api.OK || !sameLists(y, possible) {
			t.Fatal(p, y, e, possible)
		}
		choice, lengths, e := night.Programme(p)
		if len(shows) == 0 {
			if e != api.ErrNone || choice != nil || lengths != nil {
				t.Fatal(p, choice, lengths, e)
			}
		} else if e != api.OK || !slices.Equal(choice, shows[0].choice) || !slices.Equal(lengths, shows[0].lengths) {
			t.Fatal(p, choice, lengths, e, shows[0])
		}
	})
}

// P3.1.
func TestCan(t *testing.T) {
	late := with(planP(), func(p *api.NightPlan) { p.Begin = 30 })
	for i, x := range []struct {
		p      api.NightPlan
		choice []int
		want   bool
	}{
		{planP(), l(0, 1, 2, 4), true}, {planP(), l(0, 2, 4), false}, {planP(), l(0, 1, 2, 3, 4), false}, {planQ(), l(0, 1, 2, 4), false},
		{late, l(0, 2, 4), true}, {late, l(0, 1, 2, 4), false}, {restPlan(), nil, true}, {restPlan(), l(0), true}, {restPlan(), l(0, 1), true},
		{greatestPlan(), l(6, 7, 8, 9), false},
	} {
		if y, e := night.Can(x.p, x.choice); e != api.OK || y != x.want {
			t.Error(i, y, e)
		}
	}
	for i, choice := range slices.Concat(badLists(), noChoices()) {
		if y, e := night.Can(planP(), choice); e != api.ErrArg || y {
			t.Error(i, y, e)
		}
	}
}

// P3.2: the chapter's examples, the order of choices, and plans in which parts have no scenes.
func TestChoices(t *testing.T) {
	few := plan(0, span(0, 5), span(0, 5), span(0, 5), battle(0, 1, 1), battle(1, 1, 2), battle(2, 1, 1))
	for i, x := range []struct {
		p       api.NightPlan
		want    [][]int
		lengths []int
	}{
		{planP(), [][]int{l(0, 1, 2, 4)}, l(40, 20, 60, 60)},
		{with(planP(), func(p *api.NightPlan) { p.Begin = 30 }), [][]int{l(0, 2, 4)}, l(40, 50, 60)},
		{calmPlan(), [][]int{l(0, 1, 2, 3), l(0, 1, 2)}, l(60, 60, 50, 10)},
		{few, [][]int{l(0, 1, 2), l(0, 1), l(0, 2), l(1, 2), l(0), l(1), l(2), l()}, l(1, 1, 1)},
		{restPlan(), [][]int{l(0, 1), l(0), l(1), l()}, l(1, 6)},
		{plan(7, span(7, 7), span(7, 7), span(7, 7), battle(0, 1, 240)), [][]int{l()}, l()},
		{plan(0, span(0, 0), span(10, 10), span(10, 10), scene(1, 2, 7), scene(1, 3, 8)), [][]int{l(0, 1)}, l(2, 8)},
		// more scenes come first, wherever they are
		{plan(0, span(0, 0), span(0, 0), span(5, 5), battle(2, 5, 5), wanting(battle(2, 2, 2), 2), wanting(battle(2, 3, 3), 1)), [][]int{l(1, 2), l(0)}, l(2, 3)},
		// the last part makes the first one as long as it can be
		{plan(0, span(9, 30), span(9, 30), span(30, 30), scene(0, 1, 5), scene(0, 1, 5), scene(2, 10, 20)), [][]int{l(0, 1, 2)}, l(5, 5, 20)},
	} {
		y, e := night.Choices(x.p)
		if e != api.OK || !sameLists(y, x.want) {
			t.Error(i, y, e)
		}
		choice, lengths, e := night.Programme(x.p)
		if e != api.OK || !slices.Equal(choice, x.want[0]) || !slices.Equal(lengths, x.lengths) {
			t.Error(i, choice, lengths, e)
		}
	}
	for i, p := range []api.NightPlan{planQ(), greatestPlan()} {
		if y, e := night.Choices(p); e != api.OK || len(y) > 0 {
			t.Error(i, y, e)
		}
		if choice, lengths, e := night.Programme(p); e != api.ErrNone || choice != nil || lengths != nil {
			t.Error(i, choice, lengths, e)
		}
	}
}
