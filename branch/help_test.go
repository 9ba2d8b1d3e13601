package branch_test

import (
	"cmp"
	"fmt"
	"math"
	"math/big"
	"math/rand/v2"
	"reflect"
	"slices"
	"testing"

	"kelir/api"
)

func l(n ...int) []int { return n }

func ll(lists ...[]int) [][]int { return lists }

func sp(low, high int) api.Span { return api.Span{Low: low, High: high} }

func rule(from int, to ...int) api.BranchRule { return api.BranchRule{From: from, To: to} }

func scene(part, least, most int) api.BranchScene {
	return api.BranchScene{Part: part, Least: least, Most: most}
}

func battle(part, least, most int) api.BranchScene {
	return api.BranchScene{Part: part, Least: least, Most: most, Loose: true}
}

// formula returns a scene that is one.
func formula(s api.BranchScene) api.BranchScene {
	s.Formula = true
	return s
}

func story(episodes int, scenes []api.BranchScene, rules ...api.BranchRule) api.BranchStory {
	return api.BranchStory{Episodes: episodes, Scenes: scenes, Rules: rules}
}

func scenes(list ...api.BranchScene) []api.BranchScene { return list }

// plain returns a story with so many scenes of no interest.
func plain(episodes, many int, rules ...api.BranchRule) api.BranchStory {
	return story(episodes, slices.Repeat(scenes(scene(0, 1, 1)), many), rules...)
}

func evening(begin int, first, second, dawn api.Span) api.BranchEvening {
	return api.BranchEvening{Begin: begin, Stars: [2]api.Span{first, second}, Dawn: dawn}
}

// storyS and storyT are the stories s and t of the chapter, nightN and nightM its nights n and m.
func storyS() api.BranchStory {
	return story(3, scenes(formula(scene(0, 40, 50)), battle(0, 20, 30), scene(1, 50, 60), battle(1, 30, 40), formula(scene(2, 55, 70))),
		rule(0, 3, 1, 7), rule(1, 4, 2), rule(1, 2), rule(2, 5), rule(2, 5, 6), rule(2, 6))
}

func storyT() api.BranchStory {
	return with(storyS(), func(s *api.BranchStory) { s.Scenes[2].Formula = true })
}

func nightN() api.BranchEvening { return evening(0, sp(60, 70), sp(120, 130), sp(180, 200)) }

func nightM() api.BranchEvening { return evening(0, sp(60, 70), sp(120, 130), sp(210, 220)) }

// beginning returns a night with another Begin.
func beginning(n api.BranchEvening, begin int) api.BranchEvening {
	n.Begin = begin
	return n
}

// smallStory is the story of the chapter's book.
func smallStory() api.BranchStory { return plain(1, 1, rule(0, 1)) }

// deadStory has no derivation.
func deadStory() api.BranchStory { return plain(2, 1, rule(0, 2, 1)) }

// prefixStory has plays that begin with each other.
func prefixStory() api.BranchStory {
	return plain(2, 2, rule(0, 2, 1), rule(0, 2), rule(1, 2, 3), rule(1, 3), rule(1, 2), rule(0, 3))
}

// doubleStory has plays with several derivations.
func doubleStory() api.BranchStory {
	return plain(3, 2, rule(1, 4), rule(0, 1, 2), rule(0, 1, 1), rule(0, 4, 3), rule(1, 3), rule(2, 3), rule(2, 3))
}

// fullStory has exactly 40 derivations, and a longest play of exactly 10 scenes.
func fullStory() api.BranchStory {
	return plain(3, 2, rule(0, 1, 1, 1), rule(0, 1, 1), rule(0, 1), rule(0, 2, 2, 3, 3), rule(1, 3), rule(1, 4), rule(1, 4), rule(2, 3, 3, 3, 4))
}

// longestStory has the longest book.
func longestStory() api.BranchStory {
	return story(6, slices.Repeat(scenes(formula(battle(2, 240, 240))), 8), slices.Repeat([]api.BranchRule{rule(5, 13, 13, 13, 13)}, 10)...)
}

func copyOf(s api.BranchStory) api.BranchStory {
	s.Scenes, s.Rules = slices.Clone(s.Scenes), slices.Clone(s.Rules)
	for n := range s.Rules {
		s.Rules[n].To = slices.Clone(s.Rules[n].To)
	}
	return s
}

func with(s api.BranchStory, change func(*api.BranchStory)) api.BranchStory {
	s = copyOf(s)
	change(&s)
	return s
}

// withRules returns a story with further rules.
func withRules(s api.BranchStory, rules ...api.BranchRule) api.BranchStory {
	return with(s, func(s *api.BranchStory) { s.Rules = append(s.Rules, rules...) })
}

// onlyRules returns a story with some of its rules alone.
func onlyRules(s api.BranchStory, rules []int) api.BranchStory {
	return with(s, func(only *api.BranchStory) {
		only.Rules = nil
		for _, n := range rules {
			only.Rules = append(only.Rules, s.Rules[n])
		}
	})
}

func goodStories() []api.BranchStory {
	return []api.BranchStory{
		storyS(), storyT(), smallStory(), deadStory(), prefixStory(), doubleStory(), fullStory(), longestStory(),
		plain(6, 1, rule(5, 6)), plain(6, 8, rule(0, 13)), plain(1, 8, rule(0, 8, 7, 1, 1)), story(1, scenes(battle(2, 240, 240)), rule(0, 1)), story(1, scenes(formula(battle(0, 1, 240))), rule(0, 1)),
		plain(2, 1, slices.Repeat([]api.BranchRule{rule(1, 2)}, 10)...), plain(2, 1, rule(0, 1, 1, 2, 2), rule(1, 2, 2, 2, 2), rule(1, 2)),
		// what no derivation has may be long, and in many ways
		plain(6, 1, rule(0, 6), rule(1, 2, 2, 2, 2), rule(2, 3, 3, 3, 3), rule(3, 4, 4, 4, 4), rule(4, 5, 5, 5, 5), rule(5, 6), rule(5, 6)),
		plain(6, 1, rule(0, 1, 1, 1, 5), rule(1, 2, 2, 2, 2), rule(2, 3, 3, 3, 3), rule(3, 4, 4, 4, 4), rule(4, 6), rule(4, 6)),
		plain(6, 1, rule(0, 5, 1, 1, 1), rule(1, 2, 2, 2, 2), rule(2, 3, 3, 3, 3), rule(3, 4, 4, 4, 4), rule(4, 6), rule(4, 6), rule(0, 6)),
	}
}

// badStories are all but for one thing like stories that are as defined.
func badStories() []api.BranchStory {
	out := []api.BranchStory{
		{}, {Episodes: 1}, {Episodes: 1, Scenes: smallStory().Scenes}, {Episodes: 1, Rules: smallStory().Rules}, {Scenes: smallStory().Scenes, Rules: smallStory().Rules},
		plain(7, 1, rule(6, 7)), plain(2, 0, rule(0, 1)), plain(3, 0, rule(0, 2, 1), rule(1, 2)), plain(1, 9, rule(0, 1)), plain(1, 1, rule(0, 2)), plain(1, 1, rule(0)), plain(1, 1, rule(0, 1, 1, 1, 1, 1)), plain(2, 1, rule(1, 1)), plain(2, 1, rule(1, 0)), plain(2, 1, rule(0, 1), rule(1, 3)), plain(1, 1, rule(0, 1), rule(1, 1)), plain(2, 8, rule(0, 10)),
		plain(2, 1, slices.Repeat([]api.BranchRule{rule(1, 2)}, 11)...), plain(1, 100000, rule(0, 1)), plain(1, 1, slices.Repeat([]api.BranchRule{rule(0, 1)}, 100000)...), plain(1, 1, rule(0, slices.Repeat(l(1), 100000)...)),
		// 41 derivations, or 11 scenes
		withRules(fullStory(), rule(0, 3)), with(fullStory(), func(s *api.BranchStory) { s.Rules[3].To[3] = 2 }),
		plain(3, 1, rule(0, 1, 1, 2), rule(1, 3, 3, 3, 3), rule(2, 3, 3, 3)), plain(3, 1, rule(0, 2), rule(0, 1, 1, 2), rule(1, 3, 3, 3, 3), rule(2, 3), rule(2, 3, 3, 3)),
		// 2 to the power of 32, of 64 and of 1024 derivations
		plain(4, 1, rule(0, 1, 1), rule(1, 2, 2, 2, 2), rule(2, 3, 3, 3, 3), rule(3, 4), rule(3, 4)), plain(4, 1, rule(0, 1, 1, 1, 1), rule(1, 2, 2, 2, 2), rule(2, 3, 3, 3, 3), rule(3, 4), rule(3, 4)),
		plain(6, 1, rule(0, 1, 1, 1, 1), rule(1, 2, 2, 2, 2), rule(2, 3, 3, 3, 3), rule(3, 4, 4, 4, 4), rule(4, 5, 5, 5, 5), rule(5, 6), rule(5, 6)),
		// a play of 1024 scenes
		plain(5, 1, rule(0, 1, 1, 1, 1), rule(1, 2, 2, 2, 2), rule(2, 3, 3, 3, 3), rule(3, 4, 4, 4, 4), rule(4, 5, 5, 5, 5)),
	}
	for _, n := range l(math.MinInt, -1, math.MaxInt) {
		for _, change := range []func(*api.BranchStory){
			func(s *api.BranchStory) { s.Episodes = n },
			func(s *api.BranchStory) { s.Scenes[0].Part = n },
			func(s *api.BranchStory) { s.Scenes[4].Part = n },
			func(s *api.BranchStory) { s.Scenes[1].Least = n },
			func(s *api.BranchStory) { s.Scenes[3].Most = n },
			func(s *api.BranchStory) { s.Rules[0].From = n },
			func(s *api.BranchStory) { s.Rules[5].From = n },
			func(s *api.BranchStory) { s.Rules[0].To[1] = n },
			func(s *api.BranchStory) { s.Rules[5].To[0] = n },
		} {
			out = append(out, with(storyS(), change))
		}
	}
	for _, change := range []func(*api.BranchStory){
		func(s *api.BranchStory) { s.Episodes = 0 },
		func(s *api.BranchStory) { s.Episodes = 2 },
		func(s *api.BranchStory) { s.Episodes = 7 },
		func(s *api.BranchStory) { s.Scenes = nil },
		func(s *api.BranchStory) { s.Scenes = s.Scenes[:4] },
		func(s *api.BranchStory) { s.Rules = nil },
		func(s *api.BranchStory) { s.Rules = []api.BranchRule{} },
		func(s *api.BranchStory) { s.Scenes[4].Part = 3 },
		func(s *api.BranchStory) { s.Scenes[4].Least = 0 },
		func(s *api.BranchStory) { s.Scenes[4].Least = 71 },
		func(s *api.BranchStory) { s.Scenes[4].Most = 241 },
		func(s *api.BranchStory) { s.Scenes[4].Most = 54 },
		func(s *api.BranchStory) { s.Scenes[4].Least, s.Scenes[4].Most = 241, 241 },
		func(s *api.BranchStory) { s.Rules[5].From = 3 },
		func(s *api.BranchStory) { s.Rules[4].To = nil },
		func(s *api.BranchStory) { s.Rules[4].To = l() },
		func(s *api.BranchStory) { s.Rules[4].To = l(3, 4, 5, 6, 7) },
		func(s *api.BranchStory) { s.Rules[4].To[1] = 8 },
		func(s *api.BranchStory) { s.Rules[4].To[1] = 2 },
		func(s *api.BranchStory) { s.Rules[4].To[1] = 1 },
		func(s *api.BranchStory) { s.Rules[4].To[1] = 0 },
	} {
		out = append(out, with(storyS(), change))
	}
	return out
}

func badNights() []api.BranchEvening {
	var out []api.BranchEvening
	for _, begin := range l(-1, 901, math.MinInt, math.MaxInt) {
		out = append(out, beginning(nightN(), begin))
	}
	for _, window := range []api.Span{
		sp(-1, 0), sp(-1, -1), sp(60, 59), sp(60, 91), sp(871, 902), sp(890, 901), sp(901, 901), sp(0, math.MaxInt), sp(math.MinInt, 0), sp(math.MinInt, math.MaxInt), sp(math.MaxInt, math.MinInt), sp(math.MinInt, math.MinInt), sp(math.MaxInt, math.MaxInt),
	} {
		n := nightN()
		out = append(out, evening(0, window, n.Stars[1], n.Dawn), evening(0, n.Stars[0], window, n.Dawn), evening(0, n.Stars[0], n.Stars[1], window))
	}
	return out
}

// badPlays are no lists of scenes of the story s.
func badPlays() [][]int {
	return ll(l(-1), l(5), l(-2), l(0, 1, 2, 3, 5), l(-1, 1, 2, 3, 4), l(0, 1, 2, 3, -1), l(0, -1, 4), l(0, 7), l(math.MinInt), l(0, math.MaxInt), slices.Repeat(l(0), 11), append(slices.Repeat(l(0), 9), 5), slices.Repeat(l(0), 100000))
}

// badSeen are no lists of scenes of the story s of which some are forgotten.
func badSeen() [][]int {
	return ll(l(-2), l(5), l(0, -1, 5), l(0, -2, 4), l(-1, -1, -1, -3), l(math.MinInt), l(-1, math.MaxInt), slices.Repeat(l(-1), 11), slices.Repeat(l(0), 11), append(slices.Repeat(l(-1), 9), -2), slices.Repeat(l(-1), 100000))
}

func random(seed uint64) *rand.Rand { return rand.New(rand.NewPCG(seed, 9)) }

// wildStory is one that may have no derivation, or far too many, or too long plays.
func wildStory(g *rand.Rand) api.BranchStory {
	s := api.BranchStory{Episodes: 1 + g.IntN(6)}
	for range 1 + g.IntN(8) {
		least := 1 + g.IntN(6)
		part := g.IntN(3)
		s.Scenes = append(s.Scenes, api.BranchScene{Part: part, Least: least, Most: least + g.IntN(4), Loose: g.IntN(3) == 0, Formula: g.IntN(8) == 0})
	}
	slices.SortFunc(s.Scenes, func(a, b api.BranchScene) int { return a.Part - b.Part })
	motifs := s.Episodes + len(s.Scenes)
	deep, wide := g.IntN(3), 1+g.IntN(4)
	for n := range 1 + max(g.IntN(10), g.IntN(10)) {
		r := rule(g.IntN(s.Episodes))
		if n < s.Episodes && g.IntN(4) > 0 {
			r.From = n
		}
		for range 1 + g.IntN(wide) {
			motif := r.From + 1 + g.IntN(motifs-r.From-1)
			if g.IntN(3) < deep {
				motif = min(motif, r.From+1+g.IntN(2))
			}
			r.To = append(r.To, motif)
		}
		if g.IntN(2) == 0 {
			slices.SortFunc(r.To, func(a, b int) int { return partOf(s, a) - partOf(s, b) })
		}
		s.Rules = append(s.Rules, r)
	}
	if g.IntN(2) == 0 {
		g.Shuffle(len(s.Rules), func(n, m int) { s.Rules[n], s.Rules[m] = s.Rules[m], s.Rules[n] })
	}
	return s
}

// partOf returns the Part of a motif that is a scene, and the second one for an episode.
func partOf(s api.BranchStory, motif int) int {
	if motif < s.Episodes {
		return 1
	}
	return s.Scenes[motif-s.Episodes].Part
}

// randomStory is one that is as defined, mostly with some plays; its derivations are soon found also if each rule is tried.
func randomStory(g *rand.Rand) api.BranchStory {
	few := g.IntN(2)
	for {
		s := wildStory(g)
		if !slowGood(s) {
			continue
		}
		list, done := tryDerivations(s, 2000)
		if done && (len(list) >= 2+few*4 || g.IntN(8) == 0) {
			return s
		}
	}
}

// randomNight is one that often is filled by some play of a story.
func randomNight(g *rand.Rand, s api.BranchStory) api.BranchEvening {
	begin := g.IntN(12)
	n := evening(begin, sp(8, 12), sp(16, 20), sp(24, 28))
	if plays := slowPlays(s); len(plays) > 0 {
		now := begin
		var ends [3]int
		play := plays[g.IntN(len(plays))]
		for part := range ends {
			for _, k := range play {
				if s.Scenes[k].Part == part && (!s.Scenes[k].Loose || g.IntN(2) == 0) {
					now += s.Scenes[k].Least + g.IntN(s.Scenes[k].Most-s.Scenes[k].Least+1)
				}
			}
			ends[part] = now
		}
		window := func(end int) api.Span {
			end += max(0, g.IntN(12)-9) - max(0, g.IntN(12)-9)
			low := max(0, end-g.IntN(4))
			return sp(low, max(low, end+g.IntN(4)))
		}
		n = evening(begin, window(ends[0]), window(ends[1]), window(ends[2]))
	}
	return n
}

// slowRuleSays reports what the chapter says of a rule.
func slowRuleSays(s api.BranchStory, r api.BranchRule) bool {
	if r.From < 0 || r.From >= s.Episodes || len(r.To) < 1 || len(r.To) > 4 {
		return false
	}
	for _, motif := range r.To {
		if motif <= r.From || motif >= s.Episodes+len(s.Scenes) {
			return false
		}
	}
	return true
}

// slowGood is what the chapter says of a story.
func slowGood(s api.BranchStory) bool {
	if s.Episodes < 1 || s.Episodes > 6 || len(s.Scenes) < 1 || len(s.Scenes) > 8 || len(s.Rules) < 1 || len(s.Rules) > 10 {
		return false
	}
	for _, x := range s.Scenes {
		if x.Part < 0 || x.Part > 2 || x.Least < 1 || x.Most > 240 || x.Least > x.Most {
			return false
		}
	}
	for _, r := range s.Rules {
		if !slowRuleSays(s, r) {
			return false
		}
	}
	return slowWays(s, 0).Cmp(big.NewInt(40)) <= 0 && slowLong(s, 0) <= 10
}

// slowWays returns in how many ways a motif becomes scenes.
func slowWays(s api.BranchStory, motif int) *big.Int {
	if motif >= s.Episodes {
		return big.NewInt(1)
	}
	known := map[int]*big.Int{}
	all := new(big.Int)
	for _, r := range s.Rules {
		if r.From == motif {
			ways := big.NewInt(1)
			for _, m := range r.To {
				if known[m] == nil {
					known[m] = slowWays(s, m)
				}
				ways.Mul(ways, known[m])
			}
			all.Add(all, ways)
		}
	}
	return all
}

// slowLong returns how many scenes a motif becomes at most, or -1 if it never becomes scenes.
func slowLong(s api.BranchStory, motif int) int {
	if motif >= s.Episodes {
		return 1
	}
	most := -1
	for _, r := range s.Rules {
		if r.From != motif {
			continue
		}
		sum := 0
		for _, m := range r.To {
			if long := slowLong(s, m); long < 0 {
				sum = math.MinInt32
			} else {
				sum += long
			}
		}
		most = max(most, sum)
	}
	return most
}

// derivation is rules that were taken, and the play that came out.
type derivation struct{ rules, play []int }

// tryDerivations takes all rules one after the other, as the chapter says, and gives up after so many.
func tryDerivations(s api.BranchStory, most int) ([]derivation, bool) {
	var out []derivation
	taken := 0
	var derive func(rules, motifs []int)
	derive = func(rules, motifs []int) {
		for place, motif := range motifs {
			if motif >= s.Episodes {
				continue
			}
			for n, r := range s.Rules {
				if r.From == motif && taken < most {
					taken++
					next := append(append(slices.Clone(motifs[:place]), r.To...), motifs[place+1:]...)
					derive(append(slices.Clone(rules), n), next)
				}
			}
			return
		}
		play := slices.Clone(motifs)
		for n := range play {
			play[n] -= s.Episodes
		}
		out = append(out, derivation{rules, play})
	}
	derive(nil, l(0))
	slices.SortFunc(out, func(a, b derivation) int { return slices.Compare(a.rules, b.rules) })
	return out, taken < most
}

func slowDerivations(s api.BranchStory) []derivation {
	out, done := tryDerivations(s, 100000)
	if !done {
		panic("too many rules are taken")
	}
	return out
}

func slowPlays(s api.BranchStory) [][]int {
	var out [][]int
	for _, d := range slowDerivations(s) {
		if !slices.ContainsFunc(out, func(play []int) bool { return slices.Equal(play, d.play) }) {
			out = append(out, d.play)
		}
	}
	slices.SortFunc(out, func(a, b []int) int {
		for n := range min(len(a), len(b)) {
			if a[n] != b[n] {
				return a[n] - b[n]
			}
		}
		return len(a) - len(b)
	})
	return out
}

func windows(n api.BranchEvening) [3]api.Span { return [3]api.Span{n.Stars[0], n.Stars[1], n.Dawn} }

func lies(n int, s api.Span) bool { return s.Low <= n && n <= s.High }

// slowOrdered is what the chapter says of the order of a play.
func slowOrdered(s api.BranchStory, play []int) bool {
	loose := 0
	for n, k := range play {
		if n > 0 && s.Scenes[k].Part < s.Scenes[play[n-1]].Part {
			return false
		}
		if s.Scenes[k].Loose {
			loose++
		}
	}
	return loose <= 6
}

// slowEnds returns whether a list of scenes, in the order of their Parts, can end all parts in their windows: it goes through all minutes at which scenes can end.
func slowEnds(s api.BranchStory, n api.BranchEvening, list []int) bool {
	now := map[int]bool{n.Begin: true}
	for part, window := range windows(n) {
		for _, k := range list {
			if s.Scenes[k].Part != part {
				continue
			}
			then := map[int]bool{}
			for minute := range now {
				for length := s.Scenes[k].Least; length <= s.Scenes[k].Most; length++ {
					then[minute+length] = true
				}
			}
			now = then
		}
		for minute := range now {
			if !lies(minute, window) {
				delete(now, minute)
			}
		}
	}
	return len(now) > 0
}

// slowCan reports whether some choice of a play ends all parts in their windows.
func slowCan(s api.BranchStory, n api.BranchEvening, play []int) bool {
	for set := range 1 << len(play) {
		var list []int
		choice := true
		for place, k := range play {
			if set>>place&1 == 1 {
				list = append(list, k)
			} else if !s.Scenes[k].Loose {
				choice = false
			}
		}
		if choice && slowEnds(s, n, list) {
			return true
		}
	}
	return false
}

// slowVerdict is what the chapter says of the verdict on a play.
func slowVerdict(s api.BranchStory, n api.BranchEvening, play []int) api.BranchVerdict {
	for k, x := range s.Scenes {
		if x.Formula && !slices.Contains(play, k) {
			return api.BranchFormula
		}
	}
	if !slowOrdered(s, play) {
		return api.BranchOrder
	}
	if !slowCan(s, n, play) {
		return api.BranchNight
	}
	return api.BranchFits
}

func slowFitting(s api.BranchStory, n api.BranchEvening) [][]int {
	var out [][]int
	for _, play := range slowPlays(s) {
		if slowVerdict(s, n, play) == api.BranchFits {
			out = append(out, play)
		}
	}
	return out
}

// slowWords returns, for each scene, whether it is in some plays.
func slowWords(s api.BranchStory, plays [][]int) []api.BranchWord {
	var out []api.BranchWord
	for k := range s.Scenes {
		all, none := true, true
		for _, play := range plays {
			if slices.Contains(play, k) {
				none = false
			} else {
				all = false
			}
		}
		word := api.BranchMay
		if all {
			word = api.BranchSurely
		}
		if none {
			word = api.BranchNever
		}
		out = append(out, word)
	}
	return out
}

// planOf returns the plan of a play for a night.
func planOf(s api.BranchStory, n api.BranchEvening, play []int) api.NightPlan {
	p := api.NightPlan{Begin: n.Begin, Stars: n.Stars, Dawn: n.Dawn}
	for _, k := range play {
		x := s.Scenes[k]
		p.Scenes = append(p.Scenes, api.NightScene{Part: x.Part, Least: x.Least, Most: x.Most, Loose: x.Loose, Wants: -1})
	}
	return p
}

// allGroups returns all lists of numbers below many in increasing order: shorter ones first, and those of one length in order.
func allGroups(many int) [][]int {
	var out [][]int
	for set := range 1 << many {
		var list []int
		for n := range many {
			if set>>n&1 == 1 {
				list = append(list, n)
			}
		}
		out = append(out, list)
	}
	slices.SortFunc(out, func(a, b []int) int { return cmp.Or(len(a)-len(b), slices.Compare(a, b)) })
	return out
}

func sameLists(a, b [][]int) bool { return slices.EqualFunc(a, b, slices.Equal) }

func sameStory(a, b api.BranchStory) bool {
	same := func(x, y api.BranchRule) bool { return x.From == y.From && slices.Equal(x.To, y.To) }
	return a.Episodes == b.Episodes && slices.Equal(a.Scenes, b.Scenes) && slices.EqualFunc(a.Rules, b.Rules, same)
}

// isZero reports whether a result is its zero value; a list may be nil or empty.
func isZero(result any) bool {
	v := reflect.ValueOf(result)
	if v.Kind() == reflect.Slice {
		return v.Len() == 0
	}
	return v.IsZero()
}

// met counts how often something was met in a test.
type met map[string]int

func (m met) note(things ...any) { m[fmt.Sprint(things...)]++ }

func (m met) atLeast(t *testing.T, many int, things ...string) {
	t.Helper()
	for _, thing := range things {
		if m[thing] < many {
			t.Error(thing, "was met too rarely:", m)
		}
	}
}
