package night_test

import (
	"slices"
	"testing"

	"kelir/api"
	"kelir/night"
)

// P3.6: the chapter's examples, and parts without scenes.
func TestFails(t *testing.T) {
	bare := func(begin int) api.NightPlan {
		return plan(begin, span(100, 110), span(100, 105), span(160, 170), scene(2, 60, 70))
	}
	for i, x := range []struct {
		p      api.NightPlan
		choice []int
		part   int
		fault  api.NightFault
		e      api.Errno
	}{
		{planP(), l(0, 1, 2, 3, 4), 1, api.NightOver, api.OK}, {planP(), l(0, 2, 4), 0, api.NightShort, api.OK}, {planP(), l(0, 1, 2, 4), 0, 0, api.ErrNone},
		{planQ(), l(0, 1, 2, 4), 2, api.NightShort, api.OK}, {bare(99), l(0), 0, api.NightShort, api.OK}, {bare(111), l(0), 0, api.NightOver, api.OK},
		{bare(106), l(0), 1, api.NightOver, api.OK}, {bare(105), l(0), 0, 0, api.ErrNone}, {bare(100), l(0), 0, 0, api.ErrNone},
		{plan(0, span(0, 0), span(1, 1), span(0, 9), battle(0, 1, 1)), nil, 1, api.NightShort, api.OK},
		{plan(0, span(0, 0), span(0, 0), span(1, 1), battle(0, 1, 1)), l(), 2, api.NightShort, api.OK},
		{plan(5, span(5, 5), span(5, 5), span(4, 4), battle(0, 1, 1)), l(), 2, api.NightOver, api.OK},
		{plan(5, span(5, 5), span(5, 5), span(4, 4), battle(0, 1, 1)), l(0), 0, api.NightOver, api.OK},
		// by a minute, on either side
		{plan(0, span(0, 0), span(0, 0), span(20, 29), scene(2, 10, 19)), l(0), 2, api.NightShort, api.OK}, {plan(0, span(0, 0), span(0, 0), span(20, 29), scene(2, 30, 40)), l(0), 2, api.NightOver, api.OK},
		{plan(0, span(0, 0), span(0, 0), span(20, 29), scene(2, 10, 20)), l(0), 0, 0, api.ErrNone}, {plan(0, span(0, 0), span(0, 0), span(20, 29), scene(2, 29, 40)), l(0), 0, 0, api.ErrNone},
		{plan(0, span(0, 0), span(0, 0), span(20, 29), scene(2, 1, 240)), l(0), 0, 0, api.ErrNone},
	} {
		if part, fault, e := night.Fails(x.p, x.choice); e != x.e || part != x.part || fault != x.fault {
			t.Error(i, part, fault, e)
		}
	}
	for i, choice := range slices.Concat(badLists(), noChoices()) {
		if part, fault, e := night.Fails(planP(), choice); e != api.ErrArg || part != 0 || fault != 0 {
			t.Error(i, part, fault, e)
		}
	}
}

// slowFails returns the part at which a choice fails, from all of its programmes.
func slowFails(p api.NightPlan, choice []int) (int, api.NightFault) {
	shows := slowShows(p, choice)
	for part, window := range windows(p) {
		before, behind := 0, 0
		var left []show
		for _, s := range shows {
			switch end := s.ends[part]; {
			case end < window.Low:
				before++
			case end > window.High:
				behind++
			default:
				left = append(left, s)
			}
		}
		if len(left) == 0 && behind == 0 {
			return part, api.NightShort
		}
		if len(left) == 0 && before == 0 {
			return part, api.NightOver
		}
		if len(left) == 0 {
			panic("some programmes end before the window, and some behind it")
		}
		shows = left
	}
	return 0, 0
}

// P3.6: against all programmes.
func TestFailsIsDefined(t *testing.T) {
	type failing struct {
		part  int
		fault api.NightFault
	}
	met := map[failing]int{}
	onPlans(t, 31, 400, func(p api.NightPlan, _ []show) {
		for _, choice := range slowChoices(p) {
			wantPart, wantFault := slowFails(p, choice)
			part, fault, e := night.Fails(p, choice)
			if (wantFault == 0) != (e == api.ErrNone) || wantFault != 0 && e != api.OK || part != wantPart || fault != wantFault {
				t.Fatal(p, choice, part, fault, e, wantPart, wantFault)
			}
			met[failing{part, fault}]++
		}
	})
	if len(met) != 7 {
		t.Error(met)
	}
}

// reaches reports, from all minutes that can be reached, whether a plan is possible.
func reaches(p api.NightPlan) bool {
	for _, choice := range slowChoices(p) {
		minutes := map[int]bool{p.Begin: true}
		for part, window := range windows(p) {
			for _, n := range choice {
				if p.Scenes[n].Part != part {
					continue
				}
				next := map[int]bool{}
				for minute := range minutes {
					for length := p.Scenes[n].Least; length <= p.Scenes[n].Most; length++ {
						next[minute+length] = true
					}
				}
				minutes = next
			}
			for minute := range minutes {
				if !lies(minute, window) {
					delete(minutes, minute)
				}
			}
		}
		if len(minutes) > 0 {
			return true
		}
	}
	return false
}

// P3.7: the chapter's examples, and the most minutes.
func TestLonger(t *testing.T) {
	last := plan(0, span(900, 900), span(900, 900), span(900, 900), scene(0, 1, 1))
	for i, x := range []struct {
		p     api.NightPlan
		scene int
		want  int
		e     api.Errno
	}{
		{planP(), 4, 0, api.OK}, {planP(), 3, 0, api.OK}, {planQ(), 4, 10, api.OK}, {planQ(), 1, 0, api.ErrNone}, {planQ(), 0, 0, api.ErrNone}, {planQ(), 2, 0, api.ErrNone}, {planQ(), 3, 0, api.ErrNone},
		{last, 0, 899, api.OK}, {with(last, func(p *api.NightPlan) { p.Scenes[0].Most = 240 }), 0, 660, api.OK},
		{with(last, func(p *api.NightPlan) { p.Begin = 899 }), 0, 0, api.OK}, {with(last, func(p *api.NightPlan) { p.Begin = 900 }), 0, 0, api.ErrNone},
		{with(last, func(p *api.NightPlan) { p.Stars[0] = span(870, 899) }), 0, 0, api.ErrNone},
		// a battle that can be longer lets the plan be played with it
		{plan(0, span(5, 5), span(9, 9), span(9, 9), scene(0, 5, 5), battle(1, 1, 1)), 1, 3, api.OK},
		// the one scene alone has to be longer by 4, with both battles by 3
		{plan(0, span(9, 9), span(9, 9), span(9, 9), scene(0, 5, 5), battle(0, 1, 1)), 0, 3, api.OK},
		{plan(0, span(9, 9), span(9, 9), span(9, 9), scene(0, 5, 5), battle(0, 5, 5)), 0, 4, api.OK},
	} {
		if y, e := night.Longer(x.p, x.scene); e != x.e || y != x.want {
			t.Error(i, y, e)
		}
	}
	for _, scene := range badScenes() {
		if y, e := night.Longer(planP(), scene); e != api.ErrArg || y != 0 {
			t.Error(scene, y, e)
		}
	}
}

// P3.7: against all minutes. No programme of these plans has a scene of 60 minutes.
func TestLongerIsDefined(t *testing.T) {
	longer, none := 0, 0
	onPlans(t, 32, 150, func(p api.NightPlan, shows []show) {
		if len(shows) > 0 {
			// a later dawn
			p.Dawn = span(p.Dawn.High+len(shows)%5, p.Dawn.High+6)
		}
		for n := range p.Scenes {
			want := 0
			for ; want <= 60; want++ {
				if reaches(with(p, func(p *api.NightPlan) { p.Scenes[n].Most += want })) {
					break
				}
			}
			y, e := night.Longer(p, n)
			switch {
			case want > 60:
				none++
				if y != 0 || e != api.ErrNone {
					t.Fatal(p, n, y, e)
				}
				continue
			case want > 0:
				longer++
			}
			if y != want || e != api.OK {
				t.Fatal(p, n, y, e, want)
			}
		}
	})
	if longer < 50 || none < 50 {
		t.Error(longer, none)
	}
}

// P3.7: the chapter's examples, and the first and the last minute.
func TestStarts(t *testing.T) {
	for i, x := range []struct {
		p    api.NightPlan
		want api.Span
		e    api.Errno
	}{
		{planP(), span(0, 30), api.OK}, {with(planP(), func(p *api.NightPlan) { p.Begin = 900 }), span(0, 30), api.OK}, {planQ(), span(0, 0), api.ErrNone}, {greatestPlan(), span(870, 896), api.OK},
		{plan(5, span(900, 900), span(900, 900), span(900, 900), battle(0, 1, 1)), span(899, 900), api.OK},
		{plan(5, span(0, 0), span(0, 0), span(0, 0), battle(0, 1, 1)), span(0, 0), api.OK},
		{plan(5, span(0, 0), span(0, 0), span(0, 0), scene(0, 1, 1)), span(0, 0), api.ErrNone},
		{plan(5, span(0, 3), span(0, 0), span(0, 9), scene(1, 1, 1)), span(0, 0), api.ErrNone},
		// 50 or 80, and nothing between them
		{plan(60, span(100, 100), span(100, 100), span(100, 100), battle(0, 20, 20), battle(0, 50, 50)), span(30, 100), api.OK},
		{plan(60, span(100, 100), span(100, 100), span(100, 100), battle(0, 20, 20), wanting(scene(0, 30, 30), 0)), span(50, 50), api.OK},
	} {
		if y, e := night.Starts(x.p); e != x.e || y != x.want {
			t.Error(i, y, e)
		}
	}
}

// P3.7: against each Begin.
func TestStartsAreDefined(t *testing.T) {
	none := 0
	onPlans(t, 33, 100, func(p api.NightPlan, _ []show) {
		var list []int
		for begin := range 60 {
			if reaches(with(p, func(p *api.NightPlan) { p.Begin = begin })) {
				list = append(list, begin)
			}
		}
		y, e := night.Starts(p)
		if len(list) == 0 {
			none++
			if e != api.ErrNone || y != (api.Span{}) {
				t.Fatal(p, y, e)
			}
		} else if e != api.OK || y != hull(list) {
			t.Fatal(p, y, e, list)
		}
	})
	if none < 3 {
		t.Error(none)
	}
}
