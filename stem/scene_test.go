package stem_test

import (
	"slices"
	"testing"

	"kelir/api"
	"kelir/stem"
)

// P5.1: plays as defined, at all limits, and others.
func TestCheck(t *testing.T) {
	for i, p := range []api.StemPlay{
		playA(), playB(), playC(), playD(), smallPlay(), greatestPlay(), longestPlay(),
		with(playA(), func(p *api.StemPlay) { p.Left = 0 }), with(playA(), func(p *api.StemPlay) { p.Left = 4 }),
		with(playA(), func(p *api.StemPlay) { p.Heights = l(1, 9, 1, 9) }), with(playA(), func(p *api.StemPlay) { p.Heights = append(p.Heights, 1, 1) }),
		with(playA(), func(p *api.StemPlay) { p.Figures[0] = figure(either, 9, 2) }), with(playA(), func(p *api.StemPlay) { p.Figures[0] = figure(left, 1, 1) }),
		with(playA(), func(p *api.StemPlay) { p.Figures = append(p.Figures, p.Figures[0]) }), with(playA(), func(p *api.StemPlay) { p.Scenes = append(p.Scenes, p.Scenes[0]) }),
		with(playA(), func(p *api.StemPlay) {
			p.Scenes[3] = api.StemScene{Moved: l(0, 4), Rest: l(1, 2, 3), Knocks: 2, Taken: l(0, 1, 2, 3)}
		}),
		with(playA(), func(p *api.StemPlay) {
			p.Scenes[3] = api.StemScene{Moved: []int{}, Rest: []int{}, Taken: []int{}}
		}),
	} {
		if e := stem.Check(p); e != api.OK {
			t.Error(i, p, e)
		}
	}
	for i, p := range badPlays() {
		if e := stem.Check(p); e != api.ErrArg {
			t.Error(i, p, e)
		}
	}
}

// P5.1: hands of figures that are moved, and one for the second knock.
func TestHands(t *testing.T) {
	for i, x := range []struct {
		p     api.StemPlay
		scene int
		want  int
	}{
		{playA(), 0, 1}, {playA(), 1, 2}, {playA(), 2, 2}, {playA(), 3, 0}, {playD(), 1, 4}, {smallPlay(), 0, 0}, {longestPlay(), 4, 13},
		{with(playA(), func(p *api.StemPlay) { p.Scenes[3].Knocks = 1 }), 3, 0}, {with(playA(), func(p *api.StemPlay) { p.Scenes[3].Knocks = 2 }), 3, 1},
		{with(playA(), func(p *api.StemPlay) { p.Scenes[3].Moved = l(0, 1, 3, 4) }), 3, 5},
	} {
		if n, e := stem.Hands(x.p, x.scene); e != api.OK || n != x.want {
			t.Error(i, n, e)
		}
	}
	g := random(11)
	for range 1000 {
		p := randomPlay(g, whole)
		for scene, s := range p.Scenes {
			if n, e := stem.Hands(p, scene); e != api.OK || n != slowHands(p, s) {
				t.Fatal(p, scene, n, e)
			}
		}
	}
}

// P5.1: each of the points that make an arrangement.
func TestRests(t *testing.T) {
	two := func(left int, heights []int, figures ...api.StemFigure) api.StemPlay {
		return api.StemPlay{Left: left, Heights: heights, Figures: figures, Scenes: []api.StemScene{rest(0, 1)}}
	}
	for i, x := range []struct {
		p      api.StemPlay
		scene  int
		places []int
		want   bool
	}{
		{playA(), 0, l(0, 1), true}, {playA(), 0, l(1, 0), false}, {playA(), 1, l(1, 3, 2), true}, {playA(), 2, l(0, 1, 3, 2), true}, {playA(), 3, l(2), true}, {playD(), 1, l(1, 3, 2), true}, {smallPlay(), 0, nil, true}, {smallPlay(), 0, l(), true},
		// a place of its own, that is not taken
		{playA(), 0, l(1, 1), false}, {playA(), 3, l(3), false}, {playB(), 2, l(0, 1, 3, 2), false}, {two(0, l(1, 1), figure(either, 9, 1), figure(either, 9, 1)), 0, l(1, 1), false},
		// the sides
		{two(1, l(1, 1, 1), figure(left, 9, 1), figure(right, 9, 1)), 0, l(0, 1), true}, {two(1, l(1, 1, 1), figure(left, 9, 1), figure(right, 9, 1)), 0, l(1, 2), false}, {two(2, l(1, 1, 1), figure(left, 9, 1), figure(right, 9, 1)), 0, l(0, 1), false}, {two(2, l(1, 1, 1), figure(left, 9, 1), figure(right, 9, 1)), 0, l(1, 2), true},
		{two(1, l(1, 1), figure(either, 9, 1), figure(either, 9, 1)), 0, l(0, 1), true}, {two(1, l(1, 1), figure(either, 9, 1), figure(either, 9, 1)), 0, l(1, 0), true}, {two(0, l(1, 1), figure(left, 9, 1), figure(either, 9, 1)), 0, l(0, 1), false}, {two(2, l(1, 1), figure(either, 9, 1), figure(right, 9, 1)), 0, l(0, 1), false},
		// no place that is higher than the rank
		{two(2, l(3, 3), figure(left, 3, 1), figure(left, 3, 1)), 0, l(0, 1), true}, {two(2, l(4, 3), figure(left, 3, 1), figure(left, 3, 1)), 0, l(0, 1), false}, {two(2, l(3, 4), figure(left, 3, 1), figure(left, 3, 1)), 0, l(0, 1), false}, {two(2, l(2, 1), figure(left, 3, 1), figure(left, 3, 1)), 0, l(0, 1), true},
		// the order of ranks on one side
		{two(2, l(2, 3), figure(left, 8, 1), figure(left, 9, 1)), 0, l(0, 1), true}, {two(2, l(2, 2), figure(left, 8, 1), figure(left, 9, 1)), 0, l(0, 1), true}, {two(2, l(3, 2), figure(left, 8, 1), figure(left, 9, 1)), 0, l(0, 1), false}, {two(2, l(2, 3), figure(left, 9, 1), figure(left, 8, 1)), 0, l(0, 1), false}, {two(2, l(3, 2), figure(left, 9, 1), figure(left, 8, 1)), 0, l(0, 1), true},
		{two(2, l(3, 2), figure(left, 8, 1), figure(left, 8, 1)), 0, l(0, 1), true}, {two(2, l(2, 3), figure(left, 8, 1), figure(left, 8, 1)), 0, l(0, 1), true}, {two(1, l(3, 2), figure(left, 8, 1), figure(right, 9, 1)), 0, l(0, 1), true}, {two(1, l(2, 3), figure(left, 9, 1), figure(right, 8, 1)), 0, l(0, 1), true},
		{two(0, l(3, 2), figure(either, 8, 1), figure(right, 9, 1)), 0, l(0, 1), false}, {two(0, l(3, 2), figure(right, 8, 1), figure(either, 9, 1)), 0, l(0, 1), false}, {two(0, l(3, 2), figure(either, 8, 1), figure(either, 9, 1)), 0, l(0, 1), false}, {two(1, l(3, 2), figure(either, 8, 1), figure(either, 9, 1)), 0, l(0, 1), true}, {two(2, l(3, 2), figure(either, 8, 1), figure(left, 9, 1)), 0, l(0, 1), false},
	} {
		if is, e := stem.Rests(x.p, x.scene, x.places); e != api.OK || is != x.want {
			t.Error(i, is, e)
		}
	}
}

// P5.1: Rests, for all lists of places of generated plays.
func TestRestsOfAll(t *testing.T) {
	g := random(12)
	seen := met{}
	for range 200 {
		p := randomPlay(g, whole)
		for scene, s := range p.Scenes {
			for _, places := range allLists(len(p.Heights), len(s.Rest)) {
				want := slowRests(p, s, places)
				if is, e := stem.Rests(p, scene, places); e != api.OK || is != want {
					t.Fatal(p, scene, places, is, e)
				}
				seen.note(want, " ", len(places))
			}
		}
	}
	seen.atLeast(t, 50, "true 1", "true 2", "true 3", "true 4", "false 1", "false 2", "false 3", "false 4")
}

// P5.1: lists that are not places of the stem, one for each figure that rests.
func TestRestsOfOthers(t *testing.T) {
	for _, places := range [][]int{nil, l(), l(0), l(0, 1, 2), l(0, 1, 2, 3), l(0, 0, 0)} {
		if is, e := stem.Rests(playA(), 0, places); e != api.ErrArg || is {
			t.Error(places, is, e)
		}
	}
	for _, place := range badPlaces() {
		for _, places := range [][]int{l(place, 1), l(0, place), l(place, place), l(1, place)} {
			if is, e := stem.Rests(playA(), 0, places); e != api.ErrArg || is {
				t.Error(places, is, e)
			}
		}
	}
	if is, e := stem.Rests(smallPlay(), 0, l(0)); e != api.ErrArg || is {
		t.Error(is, e)
	}
}

// P5.1: a scene needs hands and an arrangement.
func TestCan(t *testing.T) {
	for i, x := range []struct {
		p     api.StemPlay
		scene int
		want  bool
	}{
		{playA(), 0, true}, {playA(), 1, true}, {playA(), 2, true}, {playA(), 3, true}, {playB(), 1, true}, {playB(), 2, false}, {playB(), 3, true}, {playC(), 0, false}, {playC(), 3, true}, {playD(), 1, false}, {playD(), 2, true}, {smallPlay(), 0, true}, {longestPlay(), 0, false}, {greatestPlay(), 4, true},
		{with(playA(), func(p *api.StemPlay) { p.Scenes[2].Knocks = 2 }), 2, false}, {with(playA(), func(p *api.StemPlay) { p.Scenes[3].Moved = l(0, 1) }), 3, true}, {with(playA(), func(p *api.StemPlay) { p.Scenes[3].Moved = l(0, 1, 4) }), 3, false},
	} {
		if is, e := stem.Can(x.p, x.scene); e != api.OK || is != x.want {
			t.Error(i, is, e)
		}
	}
	g := random(13)
	seen := met{}
	for range 500 {
		p := randomPlay(g, whole)
		for scene, s := range p.Scenes {
			want := slowLack(p, s) == 0
			if is, e := stem.Can(p, scene); e != api.OK || is != want {
				t.Fatal(p, scene, is, e)
			}
			seen.note(want)
		}
	}
	seen.atLeast(t, 100, "true", "false")
}

// P5.1, P5.3, P5.5, P5.6: numbers that are no scenes.
func TestBadScenes(t *testing.T) {
	for _, scene := range badScenes() {
		for name, call := range map[string]func() []any{
			"Hands":  func() []any { y, e := stem.Hands(playA(), scene); return []any{y, e} },
			"Rests":  func() []any { y, e := stem.Rests(playA(), scene, nil); return []any{y, e} },
			"Can":    func() []any { y, e := stem.Can(playA(), scene); return []any{y, e} },
			"Count":  func() []any { y, e := stem.Count(playA(), scene); return []any{y, e} },
			"First":  func() []any { y, e := stem.First(playA(), scene); return []any{y, e} },
			"Places": func() []any { y, e := stem.Places(playA(), scene, 2); return []any{y, e} },
			"Where":  func() []any { y, e := stem.Where(playA(), scene, 2); return []any{y, e} },
			"Adds":   func() []any { y, e := stem.Adds(playA(), scene); return []any{y, e} },
			"Joins":  func() []any { y, e := stem.Joins(playA(), scene); return []any{y, e} },
		} {
			if y := call(); !isZero(y[0]) || y[1] != api.ErrArg {
				t.Error(name, scene, y)
			}
		}
	}
}

// P5.2: the first scene that cannot be played, and what comes first of what it lacks.
func TestFails(t *testing.T) {
	lone := func(f api.StemFigure, s api.StemScene) api.StemPlay {
		return api.StemPlay{Left: 1, Heights: l(5, 5), Figures: []api.StemFigure{f, figure(either, 9, 2), figure(either, 9, 1)}, Scenes: []api.StemScene{s}}
	}
	for i, x := range []struct {
		p    api.StemPlay
		n    int
		lack api.StemLack
		e    api.Errno
	}{
		{playA(), 0, 0, api.ErrNone}, {playB(), 2, api.StemNoPlace, api.OK}, {playC(), 0, api.StemRanks, api.OK}, {playD(), 1, api.StemHands, api.OK}, {smallPlay(), 0, 0, api.ErrNone}, {greatestPlay(), 0, 0, api.ErrNone}, {longestPlay(), 0, api.StemHands, api.OK},
		// the first scene, also if another one lacks what is named earlier
		{with(playB(), func(p *api.StemPlay) { p.Scenes[3].Moved = l(0, 1, 4) }), 2, api.StemNoPlace, api.OK}, {with(playC(), func(p *api.StemPlay) { p.Scenes[1].Moved = l(0, 3) }), 0, api.StemRanks, api.OK}, {with(playB(), func(p *api.StemPlay) { p.Scenes[0].Moved = l(2, 3) }), 0, api.StemHands, api.OK}, {with(playA(), func(p *api.StemPlay) { p.Scenes[3].Taken = l(2, 3) }), 3, api.StemNoPlace, api.OK},
		// hands come before places, and places before ranks
		{lone(figure(left, 4, 1), api.StemScene{Moved: l(1, 2), Rest: l(0), Taken: l(0, 1)}), 0, api.StemHands, api.OK}, {lone(figure(left, 4, 1), api.StemScene{Moved: l(1), Rest: l(0), Taken: l(0, 1)}), 0, api.StemNoPlace, api.OK}, {lone(figure(left, 4, 1), api.StemScene{Moved: l(1), Rest: l(0), Taken: l(1)}), 0, api.StemRanks, api.OK}, {lone(figure(left, 4, 1), api.StemScene{Moved: l(1), Rest: l(0), Taken: l(0)}), 0, api.StemNoPlace, api.OK}, {lone(figure(left, 4, 1), api.StemScene{Moved: l(1, 2), Rest: l(0)}), 0, api.StemHands, api.OK}, {lone(figure(right, 5, 1), api.StemScene{Moved: l(1), Rest: l(0)}), 0, 0, api.ErrNone},
		{lone(figure(either, 4, 1), api.StemScene{Moved: l(1), Rest: l(0, 2)}), 0, api.StemRanks, api.OK}, {lone(figure(either, 4, 1), api.StemScene{Moved: l(1), Rest: l(0, 2), Taken: l(0)}), 0, api.StemNoPlace, api.OK},
		// a second knock is one hand, a first one none
		{lone(figure(either, 5, 1), api.StemScene{Moved: l(1), Knocks: 1}), 0, 0, api.ErrNone}, {lone(figure(either, 5, 1), api.StemScene{Moved: l(1), Knocks: 2}), 0, api.StemHands, api.OK}, {lone(figure(either, 5, 1), api.StemScene{Moved: l(0, 2), Knocks: 1}), 0, 0, api.ErrNone}, {lone(figure(either, 5, 1), api.StemScene{Moved: l(0, 2), Knocks: 2}), 0, api.StemHands, api.OK}, {lone(figure(either, 5, 1), api.StemScene{Moved: l(0, 1)}), 0, api.StemHands, api.OK},
		// the order of ranks on one side alone
		{api.StemPlay{Left: 2, Heights: l(2, 3), Figures: []api.StemFigure{figure(left, 2, 1), figure(left, 9, 1)}, Scenes: []api.StemScene{{Rest: l(0, 1)}}}, 0, 0, api.ErrNone}, {api.StemPlay{Left: 3, Heights: l(2, 3, 1), Figures: []api.StemFigure{figure(left, 3, 1), figure(left, 2, 1), figure(left, 9, 1)}, Scenes: []api.StemScene{{Rest: l(0, 1, 2), Taken: l(0)}, {Rest: l(0, 1, 2)}}}, 0, api.StemNoPlace, api.OK}, {api.StemPlay{Left: 2, Heights: l(2, 2), Figures: []api.StemFigure{figure(left, 2, 1), figure(left, 9, 1)}, Scenes: []api.StemScene{{Rest: l(0, 1)}}}, 0, 0, api.ErrNone}, {api.StemPlay{Left: 2, Heights: l(3, 4), Figures: []api.StemFigure{figure(left, 2, 1), figure(left, 9, 1)}, Scenes: []api.StemScene{{Rest: l(0, 1)}}}, 0, api.StemRanks, api.OK},
	} {
		if n, lack, e := stem.Fails(x.p); e != x.e || n != x.n || lack != x.lack {
			t.Error(i, n, lack, e)
		}
	}
}

// P5.2, P0.5: Fails of generated plays; the scenes before the one that is named can be played, and whatever is proposed for it fails.
func TestFailsOfAll(t *testing.T) {
	g := random(14)
	seen := met{}
	for range 2000 {
		p := randomPlay(g, whole)
		n, lack, e := stem.Fails(p)
		seen.note(lack, " ", n)
		if e == api.ErrNone {
			n = len(p.Scenes)
		}
		if e != api.OK && e != api.ErrNone || e == api.ErrNone && lack != 0 {
			t.Fatal(p, n, lack, e)
		}
		for scene, s := range p.Scenes[:n] {
			first, f := stem.First(p, scene)
			if slowLack(p, s) != 0 || slowHands(p, s) > 2 || f != api.OK || !slowFree(p, s, first) || slices.ContainsFunc(first, func(place int) bool { return slices.Contains(s.Taken, place) }) {
				t.Fatal(p, n, scene, first)
			}
		}
		if e == api.ErrNone {
			continue
		}
		s := p.Scenes[n]
		if lack != slowLack(p, s) {
			t.Fatal(p, n, lack)
		}
		hands, _ := stem.Hands(p, n)
		for _, places := range allLists(len(p.Heights), len(s.Rest)) {
			if rests, e := stem.Rests(p, n, places); e != api.OK || rests && hands <= 2 {
				t.Fatal(p, n, places, e)
			}
		}
	}
	seen.atLeast(t, 10, "0 0", "1 0", "1 1", "1 2", "2 0", "2 1", "2 2", "3 0", "3 1")
}
