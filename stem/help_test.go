package stem_test

import (
	"fmt"
	"math"
	"math/rand/v2"
	"reflect"
	"slices"
	"testing"

	"kelir/api"
)

const left, right, either = api.StemLeft, api.StemRight, api.StemEither

func l(n ...int) []int { return n }

func ll(lists ...[]int) [][]int { return lists }

func figure(side api.StemSide, rank, hands int) api.StemFigure {
	return api.StemFigure{Side: side, Rank: rank, Hands: hands}
}

// playA is the play a of the chapter; playB, playC and playD are b, c and d.
func playA() api.StemPlay {
	return api.StemPlay{
		Left:    2,
		Heights: l(5, 2, 1, 4),
		Figures: []api.StemFigure{figure(left, 5, 1), figure(left, 3, 1), figure(right, 4, 1), figure(either, 6, 2), figure(either, 2, 1)},
		Scenes: []api.StemScene{
			{Moved: l(2), Rest: l(0, 1), Knocks: 1},
			{Moved: l(0), Rest: l(1, 2, 4), Knocks: 2},
			{Moved: l(3), Rest: l(0, 1, 2, 4), Knocks: 1},
			{Rest: l(2), Taken: l(3)},
		},
	}
}

func playB() api.StemPlay { return with(playA(), func(p *api.StemPlay) { p.Scenes[2].Taken = l(2) }) }

func playC() api.StemPlay { return with(playA(), func(p *api.StemPlay) { p.Figures[1].Rank = 1 }) }

func playD() api.StemPlay {
	return with(playA(), func(p *api.StemPlay) { p.Scenes[1].Moved = l(0, 3) })
}

// smallPlay is the play of the chapter's sheet.
func smallPlay() api.StemPlay {
	return api.StemPlay{Heights: l(1), Figures: []api.StemFigure{figure(left, 1, 1)}, Scenes: []api.StemScene{{}}}
}

// evenPlay has places as high as each other on the right, and figures that can rest at each of them.
func evenPlay(places, figures int, scenes ...api.StemScene) api.StemPlay {
	return api.StemPlay{Heights: slices.Repeat(l(1), places), Figures: slices.Repeat([]api.StemFigure{figure(either, 9, 1)}, figures), Scenes: scenes}
}

func rest(figures ...int) api.StemScene { return api.StemScene{Rest: figures} }

// restNot is a scene in which some places are taken.
func restNot(taken []int, figures ...int) api.StemScene {
	return api.StemScene{Rest: figures, Taken: taken}
}

// greatestPlay has the most of everything that can be played.
func greatestPlay() api.StemPlay {
	return evenPlay(6, 6, rest(0, 1, 2, 3), rest(1, 2, 3, 4), rest(2, 3, 4, 5), rest(0, 3, 4, 5), rest(0, 1, 4, 5))
}

// longestPlay has the longest sheet.
func longestPlay() api.StemPlay {
	s := api.StemScene{Moved: l(0, 1, 2, 3, 4, 5), Knocks: 2, Taken: l(0, 1, 2, 3, 4, 5)}
	return api.StemPlay{Left: 6, Heights: slices.Repeat(l(9), 6), Figures: slices.Repeat([]api.StemFigure{figure(either, 9, 2)}, 6), Scenes: slices.Repeat([]api.StemScene{s}, 5)}
}

func copyOf(p api.StemPlay) api.StemPlay {
	p.Heights, p.Figures, p.Scenes = slices.Clone(p.Heights), slices.Clone(p.Figures), slices.Clone(p.Scenes)
	for n, s := range p.Scenes {
		p.Scenes[n].Moved, p.Scenes[n].Rest, p.Scenes[n].Taken = slices.Clone(s.Moved), slices.Clone(s.Rest), slices.Clone(s.Taken)
	}
	return p
}

func with(p api.StemPlay, change func(*api.StemPlay)) api.StemPlay {
	p = copyOf(p)
	change(&p)
	return p
}

func badPlays() []api.StemPlay {
	out := []api.StemPlay{{}, {Heights: l(1), Figures: []api.StemFigure{}, Scenes: []api.StemScene{}}}
	for _, n := range l(-1, math.MinInt, math.MaxInt) {
		out = append(out,
			with(playA(), func(p *api.StemPlay) { p.Left = n }),
			with(playA(), func(p *api.StemPlay) { p.Heights[3] = n }),
			with(playA(), func(p *api.StemPlay) { p.Figures[4].Side = api.StemSide(n) }),
			with(playA(), func(p *api.StemPlay) { p.Figures[4].Rank = n }),
			with(playA(), func(p *api.StemPlay) { p.Figures[4].Hands = n }),
			with(playA(), func(p *api.StemPlay) { p.Scenes[3].Knocks = n }),
			with(playA(), func(p *api.StemPlay) { p.Scenes[3].Moved = l(n) }),
			with(playA(), func(p *api.StemPlay) { p.Scenes[3].Rest = l(n) }),
			with(playA(), func(p *api.StemPlay) { p.Scenes[3].Taken = l(n) }))
	}
	for _, change := range []func(*api.StemPlay){
		func(p *api.StemPlay) { p.Left = 5 },
		func(p *api.StemPlay) { p.Heights = nil },
		func(p *api.StemPlay) { p.Heights, p.Left, p.Scenes = nil, 0, []api.StemScene{{}} },
		func(p *api.StemPlay) { p.Heights = slices.Repeat(l(1), 7) },
		func(p *api.StemPlay) { p.Heights[0] = 0 },
		func(p *api.StemPlay) { p.Heights[3] = 10 },
		func(p *api.StemPlay) { p.Figures = nil },
		func(p *api.StemPlay) { p.Figures, p.Scenes = nil, []api.StemScene{{}} },
		func(p *api.StemPlay) { p.Figures = append(p.Figures, p.Figures[0], p.Figures[0]) },
		func(p *api.StemPlay) { p.Figures = p.Figures[:4] },
		func(p *api.StemPlay) { p.Figures[0].Side = 0 },
		func(p *api.StemPlay) { p.Figures[3].Side = 4 },
		func(p *api.StemPlay) { p.Figures[0].Rank = 0 },
		func(p *api.StemPlay) { p.Figures[4].Rank = 10 },
		func(p *api.StemPlay) { p.Figures[0].Hands = 0 },
		func(p *api.StemPlay) { p.Figures[3].Hands = 3 },
		func(p *api.StemPlay) { p.Scenes = nil },
		func(p *api.StemPlay) { p.Scenes = append(p.Scenes, p.Scenes[0], p.Scenes[0]) },
		func(p *api.StemPlay) { p.Scenes[3].Knocks = 3 },
		func(p *api.StemPlay) { p.Scenes[3].Moved = l(5) },
		func(p *api.StemPlay) { p.Scenes[3].Moved = l(0, 1, 5) },
		func(p *api.StemPlay) { p.Scenes[3].Moved = l(1, 0) },
		func(p *api.StemPlay) { p.Scenes[3].Moved = l(0, 0) },
		func(p *api.StemPlay) { p.Scenes[3].Moved = l(0, 2) },
		func(p *api.StemPlay) { p.Scenes[0].Moved = l(1) },
		func(p *api.StemPlay) { p.Scenes[2].Moved = l(3, 4) },
		func(p *api.StemPlay) { p.Scenes[3].Rest = l(5) },
		func(p *api.StemPlay) { p.Scenes[3].Rest = l(2, 1) },
		func(p *api.StemPlay) { p.Scenes[3].Rest = l(2, 2) },
		func(p *api.StemPlay) { p.Scenes[3].Rest = l(0, 1, 1, 2) },
		func(p *api.StemPlay) { p.Scenes[3].Rest = l(0, 1, 2, 3, 4) },
		func(p *api.StemPlay) { p.Scenes[3].Taken = l(4) },
		func(p *api.StemPlay) { p.Scenes[3].Taken = l(0, 1, 2, 3, 4) },
		func(p *api.StemPlay) { p.Scenes[3].Taken = l(3, 2) },
		func(p *api.StemPlay) { p.Scenes[3].Taken = l(3, 3) },
	} {
		out = append(out, with(playA(), change))
	}
	return out
}

// badScenes are no scenes of the play a, and badPlaces no places of its stem.
func badScenes() []int { return l(-1, 4, math.MinInt, math.MaxInt) }

func badPlaces() []int { return l(-1, 4, math.MinInt, math.MaxInt) }

func random(seed uint64) *rand.Rand { return rand.New(rand.NewPCG(seed, 5)) }

// size is the most that a random play has.
type size struct{ places, figures, scenes, rest int }

var whole = size{api.StemPlaces, api.StemFigures, api.StemScenes, api.StemRest}

// randomPlay is one that can be played, or nearly.
func randomPlay(g *rand.Rand, s size) api.StemPlay {
	most := func(n int) int { return 1 + max(g.IntN(n), g.IntN(n)) }
	var p api.StemPlay
	high, low := 1+g.IntN(9), 1+g.IntN(6)
	for range most(s.places) {
		p.Heights = append(p.Heights, 1+g.IntN(high))
	}
	p.Left = g.IntN(len(p.Heights) + 1)
	sides := [][]api.StemSide{{either}, {left, right, either, either, either}, {left, right}}[min(2, g.IntN(5))]
	for range most(s.figures) {
		p.Figures = append(p.Figures, figure(sides[g.IntN(len(sides))], min(9, low+g.IntN(9)), 1+g.IntN(4)/3))
	}
	moved, rests, taken := g.IntN(4), 2+g.IntN(4), 1+g.IntN(7)
	for range most(s.scenes) {
		p.Scenes = append(p.Scenes, randomScene(g, p, s.rest, moved, rests, taken))
	}
	return p
}

// restlessPlay is one in which figures often have to change their places.
func restlessPlay(g *rand.Rand) api.StemPlay {
	places := 3 + g.IntN(2)
	p := evenPlay(places, 2+g.IntN(2))
	for n := range p.Figures {
		p.Figures[n].Rank = 1 + g.IntN(2)
	}
	p.Heights[g.IntN(places)] += g.IntN(2)
	p.Left = g.IntN(places) * g.IntN(2)
	for range 2 + g.IntN(4) {
		s := api.StemScene{Taken: l(g.IntN(places))}
		if other := g.IntN(places); other > s.Taken[0] {
			s.Taken = append(s.Taken, other)
		}
		for n := range p.Figures {
			if g.IntN(4) > 0 && len(s.Rest) < places-1 {
				s.Rest = append(s.Rest, n)
			}
		}
		p.Scenes = append(p.Scenes, s)
	}
	return p
}

// randomScene has figures that are moved and that rest by so many of ten, and places that are taken by so many of twenty.
func randomScene(g *rand.Rand, p api.StemPlay, most, moved, rests, taken int) api.StemScene {
	s := api.StemScene{Knocks: g.IntN(3)}
	for n := range p.Figures {
		switch in := g.IntN(10); {
		case in < rests && len(s.Rest) < most:
			s.Rest = append(s.Rest, n)
		case in >= 10-moved:
			s.Moved = append(s.Moved, n)
		}
	}
	for place := range p.Heights {
		if g.IntN(20) < taken {
			s.Taken = append(s.Taken, place)
		}
	}
	return s
}

// slowHands returns how many hands a scene needs.
func slowHands(p api.StemPlay, s api.StemScene) int {
	hands := s.Knocks / 2
	for _, n := range s.Moved {
		hands += p.Figures[n].Hands
	}
	return hands
}

// slowFree, slowReached and slowRanked are the three points of the chapter.
func slowFree(p api.StemPlay, s api.StemScene, places []int) bool {
	for i, place := range places {
		side := p.Figures[s.Rest[i]].Side
		if slices.Contains(s.Taken, place) || slices.Index(places, place) != i || side == left && place >= p.Left || side == right && place < p.Left {
			return false
		}
	}
	return true
}

func slowReached(p api.StemPlay, s api.StemScene, places []int) bool {
	for i, place := range places {
		if p.Heights[place] > p.Figures[s.Rest[i]].Rank {
			return false
		}
	}
	return true
}

func slowRanked(p api.StemPlay, s api.StemScene, places []int) bool {
	for i, place := range places {
		for k, other := range places {
			sameSide := place < p.Left == (other < p.Left)
			if sameSide && p.Figures[s.Rest[i]].Rank < p.Figures[s.Rest[k]].Rank && p.Heights[place] > p.Heights[other] {
				return false
			}
		}
	}
	return true
}

func slowRests(p api.StemPlay, s api.StemScene, places []int) bool {
	return slowFree(p, s, places) && slowReached(p, s, places) && slowRanked(p, s, places)
}

// allLists returns all lists of so many of some first numbers, in order.
func allLists(numbers, many int) [][]int {
	out := ll(l())
	for range many {
		var longer [][]int
		for _, list := range out {
			for n := range numbers {
				longer = append(longer, append(slices.Clone(list), n))
			}
		}
		out = longer
	}
	return out
}

func slowArrangements(p api.StemPlay, s api.StemScene) [][]int {
	var out [][]int
	for _, places := range allLists(len(p.Heights), len(s.Rest)) {
		if slowRests(p, s, places) {
			out = append(out, places)
		}
	}
	return out
}

// slowLack returns what a scene lacks, or 0.
func slowLack(p api.StemPlay, s api.StemScene) api.StemLack {
	if slowHands(p, s) > 2 {
		return api.StemHands
	}
	lack := api.StemNoPlace
	for _, places := range allLists(len(p.Heights), len(s.Rest)) {
		if !slowFree(p, s, places) {
			continue
		}
		lack = api.StemRanks
		if slowRests(p, s, places) {
			return 0
		}
	}
	return lack
}

func slowPlayable(p api.StemPlay) bool {
	for _, s := range p.Scenes {
		if slowLack(p, s) != 0 {
			return false
		}
	}
	return true
}

// slowPlans returns all plans, in order, or none if there are more than some.
func slowPlans(p api.StemPlay, most int) [][][]int {
	out := [][][]int{{}}
	for _, s := range p.Scenes {
		all := slowArrangements(p, s)
		if len(out)*len(all) > most {
			return nil
		}
		var longer [][][]int
		for _, plan := range out {
			for _, places := range all {
				longer = append(longer, append(slices.Clone(plan), places))
			}
		}
		out = longer
	}
	return out
}

func slowChanges(p api.StemPlay, plan [][]int) int {
	count := 0
	for n := 1; n < len(plan); n++ {
		for i, figure := range p.Scenes[n].Rest {
			before := slices.Index(p.Scenes[n-1].Rest, figure)
			if before >= 0 && plan[n-1][before] != plan[n][i] {
				count++
			}
		}
	}
	return count
}

// slowBest returns those of some plans that have the fewest changes, and how many these have.
func slowBest(p api.StemPlay, plans [][][]int) ([][][]int, int) {
	var out [][][]int
	least := math.MaxInt
	for _, plan := range plans {
		count := slowChanges(p, plan)
		if count < least {
			out, least = nil, count
		}
		if count == least {
			out = append(out, plan)
		}
	}
	return out, least
}

// slowWithout returns a play in which some figures are in no scene.
func slowWithout(p api.StemPlay, figures []int) api.StemPlay {
	others := func(list []int) []int {
		var out []int
		for _, n := range list {
			if !slices.Contains(figures, n) {
				out = append(out, n)
			}
		}
		return out
	}
	return with(p, func(p *api.StemPlay) {
		for n, s := range p.Scenes {
			p.Scenes[n].Moved, p.Scenes[n].Rest = others(s.Moved), others(s.Rest)
		}
	})
}

// allGroups returns all lists of figures in increasing order: shorter ones first, and those of one length in order.
func allGroups(figures int) [][]int {
	var out [][]int
	for set := range 1 << figures {
		var list []int
		for n := range figures {
			if set>>n&1 == 1 {
				list = append(list, n)
			}
		}
		out = append(out, list)
	}
	slices.SortFunc(out, func(a, b []int) int {
		if len(a) != len(b) {
			return len(a) - len(b)
		}
		return slices.Compare(a, b)
	})
	return out
}

func samePlan(a, b [][]int) bool {
	return slices.EqualFunc(a, b, func(x, y []int) bool { return slices.Equal(x, y) })
}

func samePlay(a, b api.StemPlay) bool {
	return a.Left == b.Left && slices.Equal(a.Heights, b.Heights) && slices.Equal(a.Figures, b.Figures) && slices.EqualFunc(a.Scenes, b.Scenes, func(x, y api.StemScene) bool {
		return x.Knocks == y.Knocks && slices.Equal(x.Moved, y.Moved) && slices.Equal(x.Rest, y.Rest) && slices.Equal(x.Taken, y.Taken)
	})
}

// isZero reports whether a result is its zero value; a list may be nil or empty.
func isZero(result any) bool {
	v := reflect.ValueOf(result)
	if v.Kind() == reflect.Slice {
		return v.Len() == 0
	}
	return v.IsZero()
}

// met counts how often something was met in a test.
type met map[string]int

func (m met) note(things ...any) { m[fmt.Sprint(things...)]++ }

func (m met) atLeast(t *testing.T, many int, things ...string) {
	t.Helper()
	for _, thing := range things {
		if m[thing] < many {
			t.Error(thing, "was met too rarely:", m)
		}
	}
}
