package night_test

import (
	"cmp"
	"math"
	"math/rand/v2"
	"slices"
	"testing"

	"kelir/api"
)

func l(n ...int) []int { return n }

func span(low, high int) api.Span { return api.Span{Low: low, High: high} }

func scene(part, least, most int) api.NightScene {
	return api.NightScene{Part: part, Least: least, Most: most, Wants: -1}
}

func battle(part, least, most int) api.NightScene {
	return api.NightScene{Part: part, Least: least, Most: most, Loose: true, Wants: -1}
}

// wanting returns a scene that wants another one.
func wanting(s api.NightScene, wants int) api.NightScene {
	s.Wants = wants
	return s
}

func plan(begin int, first, second, dawn api.Span, scenes ...api.NightScene) api.NightPlan {
	return api.NightPlan{Begin: begin, Stars: [2]api.Span{first, second}, Dawn: dawn, Scenes: scenes}
}

// planP and planQ are the plans p and q of the chapter.
func planP() api.NightPlan {
	return plan(0, span(60, 70), span(120, 130), span(180, 200),
		scene(0, 40, 50), battle(0, 20, 30), scene(1, 50, 60), wanting(battle(1, 30, 40), 1), scene(2, 55, 70))
}

func planQ() api.NightPlan {
	q := planP()
	q.Dawn = span(210, 220)
	return q
}

// calmPlan is one with a choice that is sure.
func calmPlan() api.NightPlan {
	return plan(0, span(60, 62), span(120, 122), span(180, 182), scene(0, 50, 70), scene(1, 50, 70), scene(2, 50, 70), battle(2, 10, 20))
}

// restPlan has nothing that must be played.
func restPlan() api.NightPlan {
	return plan(5, span(0, 9), span(5, 6), span(5, 12), battle(1, 1, 2), battle(2, 6, 7))
}

// greatestPlan has the most scenes, the most battles and the widest bounds, and no choice that can be played.
func greatestPlan() api.NightPlan {
	p := plan(900, span(870, 900), span(870, 900), span(870, 900), slices.Repeat([]api.NightScene{scene(2, 1, 240)}, 10)...)
	for n := range 6 {
		p.Scenes[n].Loose = true
	}
	return p
}

func with(p api.NightPlan, change func(*api.NightPlan)) api.NightPlan {
	p.Scenes = slices.Clone(p.Scenes)
	change(&p)
	return p
}

func badPlans() []api.NightPlan {
	out := []api.NightPlan{{}, {Scenes: []api.NightScene{}}}
	bad := []api.Span{
		span(-1, 0), span(-1, -1), span(60, 59), span(1, 0), span(60, 91), span(0, 31), span(871, 902), span(890, 901), span(901, 901),
		span(0, math.MaxInt), span(math.MinInt, 0), span(math.MinInt, math.MaxInt), span(math.MaxInt, math.MinInt), span(math.MinInt, math.MinInt), span(math.MaxInt, math.MaxInt),
	}
	for _, window := range bad {
		out = append(out,
			with(planP(), func(p *api.NightPlan) { p.Stars[0] = window }),
			with(planP(), func(p *api.NightPlan) { p.Stars[1] = window }),
			with(planP(), func(p *api.NightPlan) { p.Dawn = window }))
	}
	for _, change := range []func(*api.NightPlan){
		func(p *api.NightPlan) { p.Begin = -1 },
		func(p *api.NightPlan) { p.Begin = 901 },
		func(p *api.NightPlan) { p.Begin = math.MinInt },
		func(p *api.NightPlan) { p.Begin = math.MaxInt },
		func(p *api.NightPlan) { p.Scenes = nil },
		func(p *api.NightPlan) { p.Scenes = slices.Repeat([]api.NightScene{scene(0, 1, 2)}, 11) },
		func(p *api.NightPlan) { p.Scenes = slices.Repeat([]api.NightScene{battle(0, 1, 2)}, 7) },
		func(p *api.NightPlan) {
			p.Scenes = append(slices.Repeat([]api.NightScene{battle(0, 1, 2)}, 7), scene(2, 1, 2))
		},
		func(p *api.NightPlan) { p.Scenes[0].Part = -1 },
		func(p *api.NightPlan) { p.Scenes[0].Part = 1 },
		func(p *api.NightPlan) { p.Scenes[2].Part = 2 },
		func(p *api.NightPlan) { p.Scenes[4].Part = 0 },
		func(p *api.NightPlan) { p.Scenes[4].Part = 3 },
		func(p *api.NightPlan) { p.Scenes[0].Part = math.MinInt },
		func(p *api.NightPlan) { p.Scenes[4].Part = math.MaxInt },
		func(p *api.NightPlan) { p.Scenes[0].Least = 0 },
		func(p *api.NightPlan) { p.Scenes[0].Least = 51 },
		func(p *api.NightPlan) { p.Scenes[1].Least = -1 },
		func(p *api.NightPlan) { p.Scenes[1].Least = math.MinInt },
		func(p *api.NightPlan) { p.Scenes[1].Least = math.MaxInt },
		func(p *api.NightPlan) { p.Scenes[0].Most = 39 },
		func(p *api.NightPlan) { p.Scenes[4].Most = 241 },
		func(p *api.NightPlan) { p.Scenes[4].Least, p.Scenes[4].Most = 241, 241 },
		func(p *api.NightPlan) { p.Scenes[4].Least, p.Scenes[4].Most = 0, 0 },
		func(p *api.NightPlan) { p.Scenes[4].Most = math.MaxInt },
		func(p *api.NightPlan) { p.Scenes[4].Most = math.MinInt },
		func(p *api.NightPlan) { p.Scenes[0].Wants = 0 },
		func(p *api.NightPlan) { p.Scenes[4].Wants = 4 },
		func(p *api.NightPlan) { p.Scenes[0].Wants = 5 },
		func(p *api.NightPlan) { p.Scenes[3].Wants = -2 },
		func(p *api.NightPlan) { p.Scenes[3].Wants = math.MinInt },
		func(p *api.NightPlan) { p.Scenes[3].Wants = math.MaxInt },
	} {
		out = append(out, with(planP(), change))
	}
	return out
}

// badLists are not lists of numbers of scenes of the plan p in increasing order.
func badLists() [][]int {
	return [][]int{
		l(0, 2, 1, 4), l(0, 1, 1, 2, 4), l(0, 0), l(4, 2), l(5), l(0, 1, 2, 4, 5), l(-1), l(-1, 0, 1, 2, 4), l(0, 1, 2, 4, 4),
		l(math.MinInt, 0, 1, 2, 4), l(0, 1, 2, 4, math.MaxInt), l(math.MaxInt), l(math.MinInt), l(0, 1, 2, 3, 4, 0),
	}
}

// noChoices are lists of numbers of scenes of the plan p that are no choices.
func noChoices() [][]int {
	return [][]int{nil, {}, l(0), l(0, 2), l(0, 4), l(2, 4), l(1, 2, 4), l(0, 1, 2), l(0, 1, 4), l(0, 1, 3, 4), l(0, 2, 3, 4), l(0, 1, 2, 3)}
}

// badScenes are no scenes of the plan p.
func badScenes() []int { return l(-1, 5, math.MinInt, math.MaxInt) }

func random(seed uint64) *rand.Rand { return rand.New(rand.NewPCG(seed, 3)) }

// randomPlan has up to 6 scenes with few lengths; most of these plans are possible.
func randomPlan(g *rand.Rand) api.NightPlan {
	p := api.NightPlan{Begin: g.IntN(8)}
	part := 0
	n := 1 + g.IntN(6)
	loose := g.IntN(4)
	for range n {
		part = min(2, part+g.IntN(5)/2)
		least := 1 + g.IntN(6)
		s := scene(part, least, least+g.IntN(3))
		s.Loose = g.IntN(4) < loose
		p.Scenes = append(p.Scenes, s)
	}
	for n := range p.Scenes {
		if other := g.IntN(len(p.Scenes)); other != n && g.IntN(3) == 0 {
			p.Scenes[n].Wants = other
		}
	}
	all := slowChoices(p)
	one := all[g.IntN(len(all))]
	shows := slowShows(p, one)
	ends := shows[g.IntN(len(shows))].ends
	for n, end := range ends {
		end += max(0, g.IntN(16)-12) - max(0, g.IntN(16)-12)
		low := max(0, end-g.IntN(3))
		window := span(low, max(low, end+g.IntN(3)))
		if n < 2 {
			p.Stars[n] = window
		} else {
			p.Dawn = window
		}
	}
	return p
}

func windows(p api.NightPlan) [3]api.Span { return [3]api.Span{p.Stars[0], p.Stars[1], p.Dawn} }

func lies(n int, s api.Span) bool { return s.Low <= n && n <= s.High }

func slowIsChoice(p api.NightPlan, list []int) bool {
	for n, s := range p.Scenes {
		if !s.Loose && !slices.Contains(list, n) {
			return false
		}
		if s.Wants != -1 && slices.Contains(list, n) && !slices.Contains(list, s.Wants) {
			return false
		}
	}
	return true
}

// subsets returns all lists of numbers below n in increasing order.
func subsets(n int) [][]int {
	var out [][]int
	for mask := range 1 << n {
		list := []int{}
		for bit := range n {
			if mask>>bit&1 == 1 {
				list = append(list, bit)
			}
		}
		out = append(out, list)
	}
	return out
}

// slowChoices returns all choices, each after all that come before it.
func slowChoices(p api.NightPlan) [][]int {
	var out [][]int
	for _, list := range subsets(len(p.Scenes)) {
		if slowIsChoice(p, list) {
			out = append(out, list)
		}
	}
	slices.SortFunc(out, func(a, b []int) int {
		if len(a) != len(b) {
			return cmp.Compare(len(b), len(a))
		}
		return slices.Compare(a, b)
	})
	return out
}

// show is a programme, and when its scenes begin and its parts end.
type show struct {
	choice, lengths, begins []int
	ends                    [3]int
}

func (s show) fits(p api.NightPlan) bool {
	for part, window := range windows(p) {
		if !lies(s.ends[part], window) {
			return false
		}
	}
	return true
}

// place returns where a scene is in the choice, or -1.
func (s show) place(scene int) int { return slices.Index(s.choice, scene) }

func showOf(p api.NightPlan, choice, lengths []int) show {
	s := show{choice: choice, lengths: lengths, ends: [3]int{p.Begin, p.Begin, p.Begin}}
	now := p.Begin
	for i, n := range choice {
		s.begins = append(s.begins, now)
		now += lengths[i]
		for part := p.Scenes[n].Part; part < 3; part++ {
			s.ends[part] = now
		}
	}
	return s
}

// slowShows returns all programmes of a choice, in the order of their lengths.
func slowShows(p api.NightPlan, choice []int) []show {
	lists := [][]int{{}}
	for _, n := range choice {
		var longer [][]int
		for _, list := range lists {
			for length := p.Scenes[n].Least; length <= p.Scenes[n].Most; length++ {
				longer = append(longer, append(slices.Clone(list), length))
			}
		}
		lists = longer
	}
	var out []show
	for _, lengths := range lists {
		out = append(out, showOf(p, choice, lengths))
	}
	return out
}

// slowFitting returns all programmes of a choice that fit.
func slowFitting(p api.NightPlan, choice []int) []show {
	return slices.DeleteFunc(slowShows(p, choice), func(s show) bool { return !s.fits(p) })
}

// allFitting returns all programmes that fit, with those of the first choice in front.
func allFitting(p api.NightPlan) []show {
	var out []show
	for _, choice := range slowChoices(p) {
		out = append(out, slowFitting(p, choice)...)
	}
	return out
}

// hours returns all hours, in lexicographic order.
func hours(p api.NightPlan) [][3]int {
	var out [][3]int
	w := windows(p)
	for first := w[0].Low; first <= w[0].High; first++ {
		for second := w[1].Low; second <= w[1].High; second++ {
			for third := w[2].Low; third <= w[2].High; third++ {
				out = append(out, [3]int{first, second, third})
			}
		}
	}
	return out
}

// firstMissed returns the first hours that no programme of a list fits.
func firstMissed(p api.NightPlan, shows []show) []int {
	met := map[[3]int]bool{}
	for _, s := range shows {
		met[s.ends] = true
	}
	for _, h := range hours(p) {
		if !met[h] {
			return h[:]
		}
	}
	return nil
}

// hull returns the bounds of some numbers.
func hull(list []int) api.Span { return span(slices.Min(list), slices.Max(list)) }

func sameLists(a, b [][]int) bool { return slices.EqualFunc(a, b, slices.Equal[[]int]) }

func samePlan(a, b api.NightPlan) bool {
	return a.Begin == b.Begin && a.Stars == b.Stars && a.Dawn == b.Dawn && slices.Equal(a.Scenes, b.Scenes)
}

// onPlans calls a function with generated plans, and with all programmes that fit.
func onPlans(t *testing.T, seed uint64, many int, check func(p api.NightPlan, shows []show)) {
	t.Helper()
	g := random(seed)
	possible := 0
	for range many {
		p := randomPlan(g)
		shows := allFitting(p)
		if len(shows) > 0 {
			possible++
		}
		check(p, shows)
	}
	if possible < many/4 || possible > many*19/20 {
		t.Error("plans that are possible:", possible)
	}
}
