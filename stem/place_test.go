package stem_test

import (
	"math"
	"slices"
	"testing"

	"kelir/api"
	"kelir/stem"
)

// P5.3: arrangements that are counted, and the first one.
func TestCountAndFirst(t *testing.T) {
	for i, x := range []struct {
		p     api.StemPlay
		scene int
		count int
		first []int
		e     api.Errno
	}{
		{playA(), 0, 1, l(0, 1), api.OK}, {playA(), 1, 1, l(1, 3, 2), api.OK}, {playA(), 2, 1, l(0, 1, 3, 2), api.OK}, {playA(), 3, 1, l(2), api.OK}, {playB(), 2, 0, nil, api.ErrNone}, {playC(), 0, 0, nil, api.ErrNone}, {smallPlay(), 0, 1, nil, api.OK}, {greatestPlay(), 0, 360, l(0, 1, 2, 3), api.OK},
		// whatever hands it needs
		{playD(), 1, 1, l(1, 3, 2), api.OK}, {longestPlay(), 0, 1, nil, api.OK},
		{evenPlay(1, 1, rest(0)), 0, 1, l(0), api.OK}, {evenPlay(1, 2, rest(0, 1)), 0, 0, nil, api.ErrNone}, {evenPlay(4, 4, rest(0, 1, 2, 3)), 0, 24, l(0, 1, 2, 3), api.OK}, {evenPlay(3, 6, rest(2, 5)), 0, 6, l(0, 1), api.OK}, {evenPlay(4, 2, restNot(l(0, 2), 0, 1)), 0, 2, l(1, 3), api.OK}, {evenPlay(2, 1, restNot(l(0, 1), 0)), 0, 0, nil, api.ErrNone},
		// the first figure goes to the first place, also if the second one has to go before it
		{with(evenPlay(3, 2, rest(0, 1)), func(p *api.StemPlay) { p.Left, p.Figures[0].Side, p.Figures[1].Side = 2, right, left }), 0, 2, l(2, 0), api.OK},
		{with(evenPlay(3, 2, rest(0, 1)), func(p *api.StemPlay) { p.Heights, p.Figures[1].Rank = l(1, 2, 3), 1 }), 0, 2, l(1, 0), api.OK},
	} {
		if n, e := stem.Count(x.p, x.scene); e != api.OK || n != x.count {
			t.Error(i, n, e)
		}
		if y, e := stem.First(x.p, x.scene); e != x.e || !slices.Equal(y, x.first) {
			t.Error(i, y, e)
		}
	}
}

// P5.3: where figures are in some arrangement.
func TestPlaces(t *testing.T) {
	for i, x := range []struct {
		p             api.StemPlay
		scene, figure int
		want          []int
		e             api.Errno
	}{
		{playA(), 3, 2, l(2), api.OK}, {playA(), 1, 1, l(1), api.OK}, {playA(), 1, 2, l(3), api.OK}, {playA(), 1, 4, l(2), api.OK}, {playB(), 2, 4, nil, api.ErrRule}, {playB(), 2, 0, nil, api.ErrRule}, {playC(), 0, 1, nil, api.ErrRule},
		// whatever hands it needs, and whether other scenes can be played or not
		{playD(), 1, 4, l(2), api.OK}, {playB(), 3, 2, l(2), api.OK}, {playC(), 3, 2, l(2), api.OK},
		{evenPlay(3, 2, rest(0, 1)), 0, 0, l(0, 1, 2), api.OK}, {evenPlay(4, 2, restNot(l(0, 2), 0, 1)), 0, 1, l(1, 3), api.OK}, {greatestPlay(), 4, 5, l(0, 1, 2, 3, 4, 5), api.OK},
		// figures that are elsewhere, or nowhere
		{playA(), 0, 2, nil, api.ErrArg}, {playA(), 0, 3, nil, api.ErrArg}, {playA(), 0, 5, nil, api.ErrArg}, {playA(), 0, -1, nil, api.ErrArg}, {playA(), 3, 0, nil, api.ErrArg}, {smallPlay(), 0, 0, nil, api.ErrArg}, {playA(), 2, math.MaxInt, nil, api.ErrArg}, {playA(), 2, math.MinInt, nil, api.ErrArg},
		// this error comes first
		{playB(), 2, 3, nil, api.ErrArg}, {playC(), 0, 2, nil, api.ErrArg},
	} {
		if y, e := stem.Places(x.p, x.scene, x.figure); e != x.e || !slices.Equal(y, x.want) {
			t.Error(i, y, e)
		}
	}
}

// P5.3: generated plays.
func TestPlacesOfAll(t *testing.T) {
	g := random(21)
	seen := met{}
	for range 1000 {
		p := randomPlay(g, whole)
		for scene, s := range p.Scenes {
			all := slowArrangements(p, s)
			if n, e := stem.Count(p, scene); e != api.OK || n != len(all) {
				t.Fatal(p, scene, n, e)
			}
			seen.note(min(3, len(all)), " of ", len(s.Rest))
			first, e := stem.First(p, scene)
			if len(all) == 0 && (e != api.ErrNone || len(first) > 0) || len(all) > 0 && (e != api.OK || !slices.Equal(first, all[0])) {
				t.Fatal(p, scene, first, e)
			}
			for figure := range p.Figures {
				want, f := slowPlaces(p, s, all, figure)
				if y, e := stem.Places(p, scene, figure); e != f || !slices.Equal(y, want) {
					t.Fatal(p, scene, figure, y, e)
				}
			}
		}
	}
	seen.atLeast(t, 10, "1 of 0", "0 of 1", "1 of 1", "3 of 1", "0 of 2", "1 of 2", "2 of 2", "3 of 2", "0 of 4", "3 of 4")
}

// slowPlaces returns what Places returns, if all are the arrangements of a scene.
func slowPlaces(p api.StemPlay, s api.StemScene, all [][]int, figure int) ([]int, api.Errno) {
	n := slices.Index(s.Rest, figure)
	switch {
	case n < 0:
		return nil, api.ErrArg
	case len(all) == 0:
		return nil, api.ErrRule
	}
	var list []int
	for place := range p.Heights {
		if slices.ContainsFunc(all, func(places []int) bool { return places[n] == place }) {
			list = append(list, place)
		}
	}
	return list, api.OK
}
