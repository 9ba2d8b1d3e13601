package night_test

import (
	"slices"
	"testing"

	"kelir/api"
	"kelir/night"
)

// starPlan returns a plan of which choices often are sure: scenes with many lengths, and narrow windows far from each other.
func starPlan(seed uint64) func() api.NightPlan {
	g := random(seed)
	return func() api.NightPlan {
		now := g.IntN(3)
		p := api.NightPlan{Begin: now}
		var w [3]api.Span
		for part := range 3 {
			for range 1 + g.IntN(2) {
				least := 1 + g.IntN(5)
				s := scene(part, least, least+g.IntN(7))
				s.Loose = g.IntN(3) == 0
				p.Scenes = append(p.Scenes, s)
				now += (s.Least + s.Most) / 2
			}
			now = max(0, now-g.IntN(3))
			w[part] = span(now, now+g.IntN(3))
		}
		p.Stars, p.Dawn = [2]api.Span{w[0], w[1]}, w[2]
		return p
	}
}

// P3.5: the chapter's examples, and plans in which parts have no scenes.
func TestStars(t *testing.T) {
	still := plan(7, span(7, 7), span(7, 7), span(7, 7), battle(0, 1, 240))
	for i, x := range []struct {
		p      api.NightPlan
		choice []int
		sure   bool
		best   []int
		misses []int
	}{
		{planP(), l(0, 1, 2, 4), false, nil, l(60, 120, 191)}, {planP(), l(0, 2, 4), false, nil, l(60, 120, 191)}, {planQ(), l(0, 1, 2, 4), false, nil, l(60, 120, 210)},
		{calmPlan(), l(0, 1, 2), true, l(0, 1, 2), nil}, {calmPlan(), l(0, 1, 2, 3), false, l(0, 1, 2), nil},
		{with(planP(), func(p *api.NightPlan) { p.Scenes[4].Most = 80 }), l(0, 1, 2, 4), false, nil, l(60, 121, 180)},
		{restPlan(), l(), false, nil, l(0, 5, 5)}, {restPlan(), l(0, 1), false, nil, l(0, 5, 5)},
		{with(restPlan(), func(p *api.NightPlan) { p.Stars[0] = span(5, 5) }), l(), false, nil, l(5, 5, 6)},
		// no choice is sure for all these hours, and each of them is met by some choice
		{plan(0, span(0, 0), span(0, 0), span(4, 6), battle(2, 4, 5), battle(2, 6, 6)), l(0), false, nil, nil},
		// two choices are sure
		{plan(0, span(0, 0), span(0, 0), span(4, 6), battle(2, 4, 6), battle(2, 3, 7)), l(1), true, l(0), nil},
		{plan(0, span(0, 0), span(5, 5), span(9, 9), battle(1, 2, 3), battle(1, 2, 3), battle(1, 5, 5), scene(2, 4, 4)), l(2, 3), true, l(0, 1, 3), nil},
		// hours that are not in the order of the windows are missed too
		{plan(0, span(5, 6), span(5, 6), span(9, 9), scene(0, 5, 6), battle(1, 1, 1), scene(2, 3, 4)), l(0, 2), false, nil, l(6, 5, 9)},
		{plan(0, span(8, 9), span(3, 9), span(9, 9), scene(0, 8, 9)), l(0), false, nil, l(8, 3, 9)},
	} {
		if y, e := night.Sure(x.p, x.choice); e != api.OK || y != x.sure {
			t.Error(i, y, e)
		}
		want := api.OK
		if x.best == nil {
			want = api.ErrNone
		}
		if y, e := night.Surest(x.p); e != want || !slices.Equal(y, x.best) {
			t.Error(i, y, e)
		}
		want = api.OK
		if x.misses == nil {
			want = api.ErrNone
		}
		if y, e := night.Misses(x.p); e != want || !slices.Equal(y, x.misses) {
			t.Error(i, y, e)
		}
	}
	if y, e := night.Sure(still, nil); e != api.OK || !y {
		t.Error(y, e)
	}
	if y, e := night.Surest(still); e != api.OK || len(y) > 0 {
		t.Error(y, e)
	}
}

// P3.5.
func TestSureErrors(t *testing.T) {
	for i, choice := range slices.Concat(badLists(), noChoices()) {
		if y, e := night.Sure(planP(), choice); e != api.ErrArg || y {
			t.Error(i, y, e)
		}
	}
}

// P3.5: against all programmes and all hours. If a choice is sure, no hours are missed.
func TestStarsAreDefined(t *testing.T) {
	next := starPlan(21)
	g := random(22)
	sure, missed, neither := 0, 0, 0
	for n := range 600 {
		p := next()
		if n%3 == 0 {
			p = randomPlan(g)
		}
		var best []int
		found := false
		for _, choice := range slowChoices(p) {
			want := firstMissed(p, slowFitting(p, choice)) == nil
			if y, e := night.Sure(p, choice); e != api.OK || y != want {
				t.Fatal(p, choice, y, e)
			}
			if want && !found {
				best, found = choice, true
			}
		}
		if y, e := night.Surest(p); found != (e == api.OK) || !found && (e != api.ErrNone || y != nil) || !slices.Equal(y, best) {
			t.Fatal(p, y, e, best)
		}
		first := firstMissed(p, allFitting(p))
		if y, e := night.Misses(p); (first == nil) != (e == api.ErrNone) || first != nil && e != api.OK || !slices.Equal(y, first) {
			t.Fatal(p, y, e, first)
		}
		switch {
		case found && first != nil:
			t.Fatal(p, best, first)
		case found:
			sure++
		case first != nil:
			missed++
		default:
			neither++
		}
	}
	if sure < 50 || missed < 50 || neither < 5 {
		t.Error(sure, missed, neither)
	}
}
