package stem_test

import (
	"slices"
	"testing"

	"kelir/api"
	"kelir/stem"
)

// P5.6: figures that can be added to what rests, or to what is moved.
func TestAddsAndJoins(t *testing.T) {
	hands := evenPlay(6, 6, api.StemScene{}, api.StemScene{Knocks: 1}, api.StemScene{Moved: l(1), Knocks: 1}, api.StemScene{Knocks: 2}, api.StemScene{Moved: l(1), Knocks: 2})
	hands.Figures[4].Hands = 2
	for i, x := range []struct {
		p           api.StemPlay
		scene       int
		adds, joins []int
	}{
		{playA(), 0, l(3, 4), l(4)}, {playA(), 1, l(3), nil}, {playA(), 2, nil, nil}, {playA(), 3, l(0, 1, 3, 4), l(0, 1, 3, 4)}, {playB(), 2, nil, nil}, {playD(), 1, nil, nil}, {smallPlay(), 0, nil, l(0)},
		// a scene that cannot be played cannot after it either, but others can
		{playC(), 0, nil, nil}, {playC(), 3, l(0, 3, 4), l(0, 1, 3, 4)}, {longestPlay(), 0, nil, nil},
		// one puppeteer has two hands, and needs none to add a figure
		{hands, 0, l(0, 1, 2, 3, 4, 5), l(0, 1, 2, 3, 4, 5)}, {hands, 1, l(0, 1, 2, 3, 4, 5), l(0, 1, 2, 3, 4, 5)}, {hands, 2, l(0, 2, 3, 4, 5), l(0, 2, 3, 5)}, {hands, 3, l(0, 1, 2, 3, 4, 5), l(0, 1, 2, 3, 5)}, {hands, 4, l(0, 2, 3, 4, 5), nil},
		// at most four figures rest
		{greatestPlay(), 0, nil, l(4, 5)}, {evenPlay(6, 6, rest(1, 2, 4)), 0, l(0, 3, 5), l(0, 3, 5)}, {evenPlay(6, 6, rest(0, 1, 2, 4)), 0, nil, l(3, 5)}, {evenPlay(3, 6, rest(1, 2, 4)), 0, nil, l(0, 3, 5)},
		// a figure of a lesser number, at the only place that is left
		{with(evenPlay(2, 3, restNot(nil, 1)), func(p *api.StemPlay) { p.Heights, p.Figures[1].Rank, p.Figures[0].Rank = l(5, 3), 4, 6 }), 0, l(0, 2), l(0, 2)}, {with(evenPlay(2, 3, restNot(nil, 1)), func(p *api.StemPlay) { p.Heights, p.Figures[1].Rank, p.Figures[0].Rank = l(5, 3), 4, 4 }), 0, l(2), l(0, 2)},
	} {
		if y, e := stem.Adds(x.p, x.scene); e != api.OK || !slices.Equal(y, x.adds) {
			t.Error(i, y, e)
		}
		if y, e := stem.Joins(x.p, x.scene); e != api.OK || !slices.Equal(y, x.joins) {
			t.Error(i, y, e)
		}
	}
}

// P5.6: generated plays.
func TestAddsAndJoinsOfAll(t *testing.T) {
	g := random(41)
	seen := met{}
	for range 300 {
		p := randomPlay(g, whole)
		for scene, s := range p.Scenes {
			var adds, joins []int
			for n := range p.Figures {
				if slices.Contains(s.Moved, n) || slices.Contains(s.Rest, n) {
					continue
				}
				more := s
				more.Rest = slices.Sorted(slices.Values(append(slices.Clone(s.Rest), n)))
				if len(more.Rest) <= 4 && slowLack(p, more) == 0 {
					adds = append(adds, n)
				}
				more = s
				more.Moved = append(slices.Clone(s.Moved), n)
				if slowLack(p, more) == 0 {
					joins = append(joins, n)
				}
			}
			seen.note("adds ", min(2, len(adds)))
			seen.note("joins ", min(2, len(joins)))
			if y, e := stem.Adds(p, scene); e != api.OK || !slices.Equal(y, adds) {
				t.Fatal(p, scene, y, e)
			}
			if y, e := stem.Joins(p, scene); e != api.OK || !slices.Equal(y, joins) {
				t.Fatal(p, scene, y, e)
			}
		}
	}
	seen.atLeast(t, 30, "adds 0", "adds 1", "adds 2", "joins 0", "joins 1", "joins 2")
}

// raised returns a play without knocks in which all Heights are greater, as far as they can be.
func raised(p api.StemPlay, by int) api.StemPlay {
	return with(p, func(p *api.StemPlay) {
		for place := range p.Heights {
			p.Heights[place] = min(9, p.Heights[place]+by)
		}
		for n := range p.Scenes {
			p.Scenes[n].Knocks = 0
		}
	})
}

func lowered(p api.StemPlay, by int) api.StemPlay {
	return with(p, func(p *api.StemPlay) {
		for place := range p.Heights {
			p.Heights[place] -= by
		}
	})
}

// P5.7: by how much the stem must be lower.
func TestLower(t *testing.T) {
	one := func(height, rank int) api.StemPlay {
		return api.StemPlay{Heights: l(height), Figures: []api.StemFigure{figure(right, rank, 1)}, Scenes: []api.StemScene{{}, rest(0)}}
	}
	for i, x := range []struct {
		p    api.StemPlay
		want int
		e    api.Errno
	}{
		{playA(), 0, api.OK}, {playB(), 0, api.ErrNone}, {playC(), 1, api.OK}, {playD(), 0, api.ErrNone}, {smallPlay(), 0, api.OK}, {greatestPlay(), 0, api.OK}, {longestPlay(), 0, api.ErrNone},
		{with(playA(), func(p *api.StemPlay) { p.Heights = l(9, 9, 9, 9) }), 7, api.OK}, {one(9, 1), 8, api.OK}, {one(9, 9), 0, api.OK}, {one(9, 8), 1, api.OK}, {one(2, 1), 1, api.OK}, {one(4, 1), 3, api.OK},
		// some places are less than 1 then
		{with(one(9, 1), func(p *api.StemPlay) { p.Heights, p.Scenes[1].Taken = l(1, 9), l(0) }), 8, api.OK},
		// the order of ranks stays as it is
		{api.StemPlay{Left: 2, Heights: l(4, 5), Figures: []api.StemFigure{figure(left, 1, 1), figure(left, 2, 1)}, Scenes: []api.StemScene{rest(0, 1)}}, 3, api.OK},
		{api.StemPlay{Left: 1, Heights: l(5, 4), Figures: []api.StemFigure{figure(left, 1, 1), figure(right, 2, 1)}, Scenes: []api.StemScene{rest(0, 1)}}, 4, api.OK},
		{with(playD(), func(p *api.StemPlay) { p.Figures[1].Rank = 1 }), 0, api.ErrNone}, {with(one(1, 1), func(p *api.StemPlay) { p.Scenes[0] = restNot(l(0), 0) }), 0, api.ErrNone},
	} {
		if n, e := stem.Lower(x.p); e != x.e || n != x.want {
			t.Error(i, n, e)
		}
	}
	g := random(42)
	seen := met{}
	for range 700 {
		p := raised(randomPlay(g, size{6, 6, 3, 3}), g.IntN(4))
		want, f := 0, api.ErrNone
		for by := range 10 {
			if slowPlayable(lowered(p, by)) {
				want, f = by, api.OK
				break
			}
		}
		seen.note(f, " ", min(3, want))
		if n, e := stem.Lower(p); e != f || n != want {
			t.Fatal(p, n, e)
		}
	}
	seen.atLeast(t, 10, "0 0", "0 1", "0 2", "0 3", "5 0")
}

// P5.7: the fewest figures without which a play can be played.
func TestLeaves(t *testing.T) {
	crowd := func(moved ...int) api.StemPlay {
		return evenPlay(3, 6, api.StemScene{Moved: moved, Knocks: 1})
	}
	for i, x := range []struct {
		p    api.StemPlay
		want []int
	}{
		{playA(), nil}, {playB(), l(1)}, {playC(), l(1)}, {playD(), l(3)}, {smallPlay(), nil}, {greatestPlay(), nil}, {longestPlay(), l(0, 1, 2, 3, 4, 5)},
		{with(playA(), func(p *api.StemPlay) { p.Heights = l(9, 9, 9, 9) }), l(0, 1, 2, 4)},
		{crowd(1, 2), nil}, {crowd(1, 2, 4), l(1)}, {crowd(0, 2, 3, 4), l(0, 2)}, {crowd(0, 1, 2, 3, 4, 5), l(0, 1, 2, 3)},
		// one figure of two hands, rather than two of one hand, though it comes last
		{with(crowd(0, 1, 5), func(p *api.StemPlay) { p.Figures[5].Hands = 2 }), l(5)}, {with(crowd(0, 1, 3, 5), func(p *api.StemPlay) { p.Figures[5].Hands = 2 }), l(0, 5)},
		// one figure that is in two scenes, rather than one in each
		{evenPlay(1, 4, rest(0, 3), rest(1, 3)), l(3)}, {evenPlay(1, 4, rest(0, 3), rest(1, 2)), l(0, 1)}, {evenPlay(1, 4, rest(0, 1), rest(1, 2), api.StemScene{Moved: l(0, 2, 3)}), l(0, 1)}, {evenPlay(1, 4, rest(0, 3), api.StemScene{Moved: l(1, 2, 3)}), l(3)},
		// a second knock alone can be played
		{evenPlay(1, 1, api.StemScene{Knocks: 2}), nil}, {with(evenPlay(1, 1, api.StemScene{Moved: l(0), Knocks: 2}), func(p *api.StemPlay) { p.Figures[0].Hands = 2 }), l(0)},
	} {
		if y, e := stem.Leaves(x.p); e != api.OK || !slices.Equal(y, x.want) {
			t.Error(i, y, e)
		}
	}
}

// P5.7: generated plays; no fewer figures are enough, and these are.
func TestLeavesOfAll(t *testing.T) {
	g := random(43)
	seen := met{}
	for range 400 {
		p := randomPlay(g, size{6, 6, 4, 4})
		y, e := stem.Leaves(p)
		if e != api.OK {
			t.Fatal(p, e)
		}
		seen.note(len(y))
		for _, list := range allGroups(len(p.Figures)) {
			if slices.Equal(list, y) {
				break
			}
			if _, _, e := stem.Fails(slowWithout(p, list)); e != api.OK || slowPlayable(slowWithout(p, list)) {
				t.Fatal(p, y, list, e)
			}
		}
		if _, _, e := stem.Fails(slowWithout(p, y)); e != api.ErrNone || !slowPlayable(slowWithout(p, y)) {
			t.Fatal(p, y, e)
		}
	}
	seen.atLeast(t, 10, "0", "1", "2", "3")
}
