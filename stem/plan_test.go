package stem_test

import (
	"math"
	"slices"
	"testing"

	"kelir/api"
	"kelir/stem"
)

func planA() [][]int { return ll(l(0, 1), l(1, 3, 2), l(0, 1, 3, 2), l(2)) }

// P5.4: the first plan of those with the fewest changes.
func TestPlan(t *testing.T) {
	for i, x := range []struct {
		p    api.StemPlay
		plan [][]int
		n    int
		e    api.Errno
	}{
		{playA(), planA(), 1, api.OK}, {playB(), nil, 0, api.ErrRule}, {playC(), nil, 0, api.ErrRule}, {playD(), nil, 0, api.ErrRule}, {longestPlay(), nil, 0, api.ErrRule}, {smallPlay(), ll(nil), 0, api.OK},
		// what is taken later is left alone from the start
		{evenPlay(3, 2, rest(0, 1), restNot(l(0), 0, 1)), ll(l(1, 2), l(1, 2)), 0, api.OK}, {evenPlay(3, 1, rest(0), rest(0), restNot(l(0), 0), restNot(l(1), 0)), ll(l(2), l(2), l(2), l(2)), 0, api.OK},
		// of several plans with as many changes, a scene that comes earlier tells
		{evenPlay(2, 1, rest(0), restNot(l(1), 0), restNot(l(0), 0), rest(0)), ll(l(0), l(0), l(1), l(1)), 1, api.OK}, {evenPlay(3, 1, restNot(l(2), 0), rest(0), restNot(l(0, 1), 0)), ll(l(0), l(0), l(2)), 1, api.OK}, {evenPlay(3, 2, restNot(l(0), 0, 1), restNot(l(1), 0, 1)), ll(l(1, 2), l(0, 2)), 1, api.OK},
		// a change now may save two later
		{evenPlay(2, 2, restNot(l(1), 0), rest(0, 1), restNot(l(1), 1), rest(0, 1)), ll(l(0), l(0, 1), l(0), l(1, 0)), 1, api.OK}, {evenPlay(3, 2, rest(0, 1), rest(1), restNot(l(0), 0, 1), restNot(l(0, 1), 1)), ll(l(0, 2), l(2), l(1, 2), l(2)), 0, api.OK},
		// a figure that did not rest in between has not changed
		{evenPlay(2, 1, restNot(l(0), 0), rest(), restNot(l(1), 0)), ll(l(1), nil, l(0)), 0, api.OK},
		{with(evenPlay(1, 1, rest(0), rest(0), rest(0), rest(0), rest(0)), func(p *api.StemPlay) { p.Left = 1 }), ll(l(0), l(0), l(0), l(0), l(0)), 0, api.OK},
	} {
		if y, n, e := stem.Plan(x.p); e != x.e || n != x.n || !samePlan(y, x.plan) {
			t.Error(i, y, n, e)
		}
	}
}

// P5.4: figures at different places in two scenes, one after the other.
func TestChanges(t *testing.T) {
	two := evenPlay(3, 2, rest(0, 1), rest(0, 1))
	three := evenPlay(3, 3, rest(0, 1), rest(1, 2), rest(0, 1))
	for i, x := range []struct {
		p    api.StemPlay
		plan [][]int
		want int
	}{
		{playA(), planA(), 1}, {playD(), planA(), 1}, {smallPlay(), ll(nil), 0}, {smallPlay(), ll(l()), 0},
		{two, ll(l(0, 1), l(0, 1)), 0}, {two, ll(l(0, 1), l(0, 2)), 1}, {two, ll(l(0, 1), l(2, 1)), 1}, {two, ll(l(0, 1), l(1, 0)), 2}, {two, ll(l(2, 1), l(1, 0)), 2},
		// at another place in the list, but not in the stem
		{three, ll(l(0, 1), l(1, 0), l(0, 1)), 0}, {three, ll(l(0, 1), l(0, 1), l(0, 1)), 2}, {three, ll(l(0, 1), l(1, 2), l(2, 1)), 0}, {three, ll(l(0, 1), l(1, 2), l(1, 2)), 1}, {three, ll(l(0, 1), l(2, 0), l(0, 2)), 1},
		{evenPlay(2, 1, rest(0), rest(), rest(0)), ll(l(0), nil, l(1)), 0},
		{longestPlay(), ll(nil, nil, nil, nil, nil), 0},
	} {
		if n, e := stem.Changes(x.p, x.plan); e != api.OK || n != x.want {
			t.Error(i, n, e)
		}
	}
}

// P5.4: lists that are no plans.
func TestChangesOfOthers(t *testing.T) {
	plans := [][][]int{
		nil, {}, planA()[:3], append(planA(), l(2)), append(planA(), nil), ll(nil, nil, nil, nil), ll(l(0, 1), l(1, 3, 2), l(0, 1, 3, 2), nil), ll(nil, l(1, 3, 2), l(0, 1, 3, 2), l(2)), ll(l(0, 1), l(1, 3), l(0, 1, 3, 2), l(2)), ll(l(0, 1), l(1, 3, 2), l(0, 1, 3, 2), l(2, 2)),
		ll(l(0, 1), l(1, 3, 2), l(0, 1, 3, 2), l(3)), ll(l(0, 1), l(1, 2, 3), l(0, 1, 3, 2), l(2)), ll(l(1, 0), l(1, 3, 2), l(0, 1, 3, 2), l(2)), ll(l(0, 0), l(1, 3, 2), l(0, 1, 3, 2), l(2)), ll(l(0, 1), l(1, 3, 2), l(0, 1, 3, 3), l(2)),
	}
	for _, place := range badPlaces() {
		plans = append(plans, ll(l(0, 1), l(1, 3, 2), l(0, 1, 3, 2), l(place)), ll(l(place, 1), l(1, 3, 2), l(0, 1, 3, 2), l(2)), ll(l(0, 1), l(1, 3, place), l(0, 1, 3, 2), l(2)))
	}
	for _, plan := range plans {
		if n, e := stem.Changes(playA(), plan); e != api.ErrArg || n != 0 {
			t.Error(plan, n, e)
		}
	}
	if n, e := stem.Changes(playB(), planA()); e != api.ErrArg || n != 0 {
		t.Error(n, e)
	}
}

// P5.4, P5.5: all plans of generated plays.
func TestPlansOfAll(t *testing.T) {
	g := random(31)
	seen := met{}
	for n := range 4000 {
		p := randomPlay(g, size{5, 5, 5, 3})
		if n%2 == 0 {
			p = restlessPlay(g)
		}
		if !slowPlayable(p) {
			checkNoPlan(t, p)
			continue
		}
		plans := slowPlans(p, 3000)
		if plans == nil {
			continue
		}
		best, least := slowBest(p, plans)
		if y, n, e := stem.Plan(p); e != api.OK || n != least || !samePlan(y, best[0]) {
			t.Fatal(p, y, n, e)
		}
		seen.note("least ", least)
		if len(plans) < 100 {
			checkChanges(t, p, plans, least)
		}
		if least > 0 || len(best) < len(plans) {
			checkWhere(t, p, best, seen)
		}
	}
	seen.atLeast(t, 20, "least 0", "least 1", "least 2", "least 3")
	seen.atLeast(t, 100, "never", "may", "surely")
}

func checkNoPlan(t *testing.T, p api.StemPlay) {
	t.Helper()
	if y, n, e := stem.Plan(p); e != api.ErrRule || n != 0 || len(y) > 0 {
		t.Fatal(p, y, n, e)
	}
	for scene, s := range p.Scenes {
		for figure := range p.Figures {
			want := api.ErrArg
			if slices.Contains(s.Rest, figure) {
				want = api.ErrRule
			}
			if y, e := stem.Where(p, scene, figure); e != want || len(y) > 0 {
				t.Fatal(p, scene, figure, y, e)
			}
		}
	}
}

// checkChanges checks that no plan has fewer changes than the one that is returned.
func checkChanges(t *testing.T, p api.StemPlay, plans [][][]int, least int) {
	t.Helper()
	for _, plan := range plans {
		if n, e := stem.Changes(p, plan); e != api.OK || n < least || n != slowChanges(p, plan) {
			t.Fatal(p, plan, n, e)
		}
	}
}

func checkWhere(t *testing.T, p api.StemPlay, best [][][]int, seen met) {
	t.Helper()
	for scene, s := range p.Scenes {
		for n, figure := range s.Rest {
			y, e := stem.Where(p, scene, figure)
			if e != api.OK || len(y) != len(p.Heights) {
				t.Fatal(p, scene, figure, y, e)
			}
			for place, word := range y {
				there := 0
				for _, plan := range best {
					if plan[scene][n] == place {
						there++
					}
				}
				want, name := api.StemMay, "may"
				switch there {
				case 0:
					want, name = api.StemNever, "never"
				case len(best):
					want, name = api.StemSurely, "surely"
				}
				seen.note(name)
				if word != want {
					t.Fatal(p, scene, figure, y)
				}
			}
		}
	}
}

// P5.5: where figures are in the best plans.
func TestWhere(t *testing.T) {
	const never, may, surely = api.StemNever, api.StemMay, api.StemSurely
	words := func(w ...api.StemWord) []api.StemWord { return w }
	later := evenPlay(3, 2, rest(0, 1), restNot(l(0), 0, 1))
	for i, x := range []struct {
		p             api.StemPlay
		scene, figure int
		want          []api.StemWord
		e             api.Errno
	}{
		{playA(), 1, 2, words(never, never, never, surely), api.OK}, {playA(), 3, 2, words(never, never, surely, never), api.OK}, {playA(), 0, 1, words(never, surely, never, never), api.OK},
		{later, 0, 0, words(never, may, may), api.OK}, {later, 1, 1, words(never, may, may), api.OK}, {evenPlay(1, 1, rest(0)), 0, 0, words(surely), api.OK}, {evenPlay(2, 1, rest(0)), 0, 0, words(may, may), api.OK}, {evenPlay(3, 1, rest(0), restNot(l(0, 1), 0)), 0, 0, words(never, never, surely), api.OK},
		// it may have to go early or late
		{evenPlay(2, 1, restNot(l(1), 0), rest(0), restNot(l(0), 0)), 1, 0, words(may, may), api.OK}, {evenPlay(3, 1, restNot(l(1, 2), 0), rest(0), restNot(l(0, 1), 0)), 1, 0, words(may, never, may), api.OK},
		{playB(), 0, 0, nil, api.ErrRule}, {playC(), 3, 2, nil, api.ErrRule}, {playD(), 0, 0, nil, api.ErrRule},
		{playA(), 0, 2, nil, api.ErrArg}, {playA(), 0, 4, nil, api.ErrArg}, {playA(), 3, 0, nil, api.ErrArg}, {playA(), 2, -1, nil, api.ErrArg}, {playA(), 2, 5, nil, api.ErrArg}, {playA(), 2, math.MinInt, nil, api.ErrArg}, {playA(), 2, math.MaxInt, nil, api.ErrArg}, {smallPlay(), 0, 0, nil, api.ErrArg},
		// this error comes first
		{playB(), 0, 2, nil, api.ErrArg}, {playD(), 1, 3, nil, api.ErrArg}, {playB(), 4, 0, nil, api.ErrArg},
	} {
		if y, e := stem.Where(x.p, x.scene, x.figure); e != x.e || !slices.Equal(y, x.want) {
			t.Error(i, y, e)
		}
	}
}
