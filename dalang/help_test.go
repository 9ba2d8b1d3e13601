package dalang_test

import (
	"fmt"
	"math"
	"math/rand/v2"
	"slices"
	"strings"
	"testing"

	"kelir/api"
	"kelir/chest"
	"kelir/dalang"
	"kelir/night"
)

func l(n ...int) []int { return n }

func sp(low, high int) api.Span { return api.Span{Low: low, High: high} }

func entry(k api.DalangKind, n ...int) api.DalangEntry {
	return api.DalangEntry{Kind: k, Numbers: n}
}

func question(k api.DalangTopic, n ...int) api.DalangQuestion {
	return api.DalangQuestion{Kind: k, Numbers: n}
}

func state(n ...int) []api.CueMove {
	var out []api.CueMove
	for i := 0; i < len(n); i += 2 {
		out = append(out, api.CueMove{Next: n[i], Tune: n[i+1]})
	}
	return out
}

func version(states ...[]api.CueMove) api.CueVersion { return api.CueVersion{States: states} }

// suiteS is the suite s of the chapter.
func suiteS() api.DalangSuite {
	return api.DalangSuite{
		Plan: api.NightPlan{Stars: [2]api.Span{sp(60, 70), sp(120, 130)}, Dawn: sp(180, 200), Scenes: []api.NightScene{
			{Least: 40, Most: 50, Wants: -1}, {Least: 20, Most: 30, Loose: true, Wants: -1}, {Part: 1, Least: 50, Most: 60, Wants: -1}, {Part: 1, Least: 30, Most: 40, Loose: true, Wants: 1}, {Part: 2, Least: 55, Most: 70, Wants: -1},
		}},
		Book: api.CueBook{Cues: 2, Tunes: 3, Versions: []api.CueVersion{
			version(state(1, 0, 0, 1), state(0, 2, 1, 1)), version(state(1, 0, 0, 1), state(0, 2, 0, 1)), version(state(0, 0, 0, 1)), version(state(0, 1, 1, 1), state(1, 0, 1, 1)),
		}},
		Play: api.StemPlay{Left: 2, Heights: l(5, 2, 1, 4),
			Figures: []api.StemFigure{{Side: api.StemLeft, Rank: 5, Hands: 1}, {Side: api.StemLeft, Rank: 3, Hands: 1}, {Side: api.StemRight, Rank: 4, Hands: 1}, {Side: api.StemEither, Rank: 6, Hands: 2}, {Side: api.StemEither, Rank: 2, Hands: 1}},
			Scenes:  []api.StemScene{{Moved: l(2), Rest: l(0, 1), Knocks: 1}, {Moved: l(0), Rest: l(1, 2, 4), Knocks: 2}, {Moved: l(3), Rest: l(0, 1, 2, 4), Knocks: 1}, {Rest: l(2), Taken: l(3)}},
		},
		Register: api.HideRegister{Kinds: []api.HideKind{api.HideAlong, api.HideAcross}, Hides: [][]int{l(100, 100), l(120, 100), l(140, 100), l(160, 100), l(180, 100)}, Along: sp(990, 1010), Across: sp(990, 1010), Off: 1},
		Chest:    api.ChestList{Room: 10, Depth: 3, Figures: []api.ChestFigure{{Size: 4, Rank: 3}, {Size: 3, Rank: 2}, {Size: 5, Rank: 2, Evening: 1}, {Size: 2, Rank: 3, Evening: 1}, {Size: 6, Rank: 1, Evening: 2}}},
	}
}

func with(s api.DalangSuite, change func(*api.DalangSuite)) api.DalangSuite {
	change(&s)
	return s
}

// greatSuite has as much of all as there may be.
func greatSuite() api.DalangSuite {
	s := api.DalangSuite{Plan: api.NightPlan{Stars: [2]api.Span{sp(60, 90), sp(120, 150)}, Dawn: sp(180, 210)}}
	for n := range 10 {
		s.Plan.Scenes = append(s.Plan.Scenes, api.NightScene{Part: n / 4, Least: 5, Most: 60, Loose: n%2 == 0 || n == 1, Wants: -1})
	}
	s.Book = api.CueBook{Cues: 4, Tunes: 6}
	for v := range 4 {
		var states [][]api.CueMove
		for n := range 4 {
			moves := state(0, 0, 0, 0, 0, 0, 0, 0)
			moves[(n+v)%4].Next = min(n+1, 3)
			if n == 3 {
				moves[v].Tune = 5
			}
			states = append(states, moves)
		}
		s.Book.Versions = append(s.Book.Versions, version(states...))
	}
	s.Play = api.StemPlay{Left: 3, Heights: l(1, 1, 1, 1, 1, 1)}
	for range 5 {
		s.Play.Scenes = append(s.Play.Scenes, api.StemScene{Moved: l(4, 5), Rest: l(0, 1, 2, 3)})
	}
	s.Register = api.HideRegister{Kinds: []api.HideKind{1, 1, 1, 2, 2, 2}, Along: sp(980, 1020), Across: sp(980, 1020), Off: 5, Mends: 2}
	s.Chest = api.ChestList{Room: 20, Depth: 5}
	for n := range 6 {
		s.Play.Figures = append(s.Play.Figures, api.StemFigure{Side: api.StemEither, Rank: 9, Hands: 1})
		s.Register.Hides = append(s.Register.Hides, l(500, 500-n, 500, 500, 500, 500))
		s.Chest.Figures = append(s.Chest.Figures, api.ChestFigure{Size: 1, Rank: 5, Evening: 5})
	}
	return s
}

// badSuites are all but for one thing like the suite s.
func badSuites() []api.DalangSuite {
	out := []api.DalangSuite{{}, with(suiteS(), func(s *api.DalangSuite) { s.Play.Scenes = nil })}
	for _, n := range l(math.MinInt, -1, math.MaxInt) {
		out = append(out,
			with(suiteS(), func(s *api.DalangSuite) { s.Plan.Begin = n }),
			with(suiteS(), func(s *api.DalangSuite) { s.Book.Tunes = n }),
			with(suiteS(), func(s *api.DalangSuite) { s.Book.Versions[3].States[1][1].Next = n }),
			with(suiteS(), func(s *api.DalangSuite) { s.Play.Left = n }),
			with(suiteS(), func(s *api.DalangSuite) { s.Play.Scenes[3].Rest[0] = n }),
			with(suiteS(), func(s *api.DalangSuite) { s.Register.Mends = n }),
			with(suiteS(), func(s *api.DalangSuite) { s.Register.Hides[4][1] = n }),
			with(suiteS(), func(s *api.DalangSuite) { s.Chest.Depth = n }),
			with(suiteS(), func(s *api.DalangSuite) { s.Chest.Figures[4].Rank = n }))
	}
	for _, change := range []func(*api.DalangSuite){
		// plans that are as defined, and not possible
		func(s *api.DalangSuite) { s.Plan.Begin = 31 },
		func(s *api.DalangSuite) { s.Plan.Dawn = sp(210, 220) },
		func(s *api.DalangSuite) { s.Plan.Scenes = nil },
		func(s *api.DalangSuite) { s.Plan.Scenes = s.Plan.Scenes[:4] },
		func(s *api.DalangSuite) { s.Plan.Scenes[4].Part = 3 },
		func(s *api.DalangSuite) { s.Plan.Scenes[0].Part = 1 },
		func(s *api.DalangSuite) { s.Plan.Scenes[0].Wants = 5 },
		func(s *api.DalangSuite) { s.Plan.Scenes = slices.Repeat(s.Plan.Scenes, 20000) },
		func(s *api.DalangSuite) { s.Book.Cues = 3 },
		func(s *api.DalangSuite) { s.Book.Versions = nil },
		func(s *api.DalangSuite) { s.Book.Versions = append(s.Book.Versions, s.Book.Versions[0]) },
		func(s *api.DalangSuite) { s.Play.Heights = nil },
		func(s *api.DalangSuite) { s.Play.Scenes[3].Knocks = 3 },
		func(s *api.DalangSuite) { s.Play.Scenes[3].Moved = l(2) },
		func(s *api.DalangSuite) { s.Register.Kinds = nil },
		func(s *api.DalangSuite) { s.Register.Hides[2] = l(140) },
		func(s *api.DalangSuite) { s.Register.Across = sp(1010, 990) },
		func(s *api.DalangSuite) { s.Chest.Room = 21 },
		func(s *api.DalangSuite) { s.Chest.Figures[0].Size = 0 },
		// not as many of one as of the others
		func(s *api.DalangSuite) { s.Play.Figures = append(s.Play.Figures, s.Play.Figures[4]) },
		func(s *api.DalangSuite) { s.Register.Hides = s.Register.Hides[:4] },
		func(s *api.DalangSuite) { s.Register.Hides = append(s.Register.Hides, l(200, 100)) },
		func(s *api.DalangSuite) { s.Chest.Figures = s.Chest.Figures[:4] },
		func(s *api.DalangSuite) { s.Chest.Figures = nil },
		func(s *api.DalangSuite) {
			s.Register.Hides, s.Chest.Figures = s.Register.Hides[:4], s.Chest.Figures[:4]
		},
		func(s *api.DalangSuite) {
			s.Play.Figures = append(s.Play.Figures, s.Play.Figures[4])
			s.Chest.Figures = append(s.Chest.Figures, s.Chest.Figures[4])
		},
		func(s *api.DalangSuite) {
			s.Play.Figures = append(s.Play.Figures, s.Play.Figures[4])
			s.Register.Hides = append(s.Register.Hides, l(200, 100))
		},
	} {
		out = append(out, with(suiteS(), change))
	}
	return out
}

// badEntries are not formed.
func badEntries() []api.DalangEntry {
	out := []api.DalangEntry{entry(0), entry(12), entry(-1), entry(math.MinInt), entry(math.MaxInt), entry(0, 1), entry(12, 1), entry(14)}
	for _, many := range []struct {
		kind        api.DalangKind
		least, most int
	}{
		{api.DalangWait, 1, 1}, {api.DalangBegin, 1, 1}, {api.DalangCue, 2, 2}, {api.DalangKnock, 1, 1}, {api.DalangRest, 0, 0}, {api.DalangPlay, 1, 1}, {api.DalangLend, 1, 1}, {api.DalangBack, 2, 7}, {api.DalangPack, 0, 6}, {api.DalangUnpack, 0, 0}, {api.DalangUndo, 0, 0},
	} {
		if many.least > 0 {
			out = append(out, entry(many.kind, slices.Repeat(l(1), many.least-1)...))
		}
		out = append(out, entry(many.kind, slices.Repeat(l(1), many.most+1)...), entry(many.kind, slices.Repeat(l(1), 100000)...))
		for n := range many.most {
			for _, bad := range l(-1, 1001, math.MinInt, math.MaxInt) {
				numbers := slices.Repeat(l(1), many.most)
				numbers[n] = bad
				out = append(out, entry(many.kind, numbers...))
			}
		}
	}
	return out
}

// badQuestions are none at a desk of the suite s.
func badQuestions() []api.DalangQuestion {
	out := []api.DalangQuestion{question(0), question(14), question(-1), question(math.MinInt), question(math.MaxInt), question(0, 1), question(14, 1)}
	for _, kind := range []api.DalangTopic{api.DalangNever, api.DalangCan, api.DalangFirst, api.DalangOut} {
		out = append(out, question(kind), question(kind, 0, 0), question(kind, slices.Repeat(l(0), 100000)...))
		for _, n := range l(-1, 5, 1000, math.MinInt, math.MaxInt) {
			out = append(out, question(kind, n))
		}
	}
	for _, kind := range []api.DalangTopic{api.DalangNight, api.DalangProgramme, api.DalangEnds, api.DalangRemains, api.DalangAsk, api.DalangHome, api.DalangPlayed, api.DalangBest, api.DalangStands} {
		out = append(out, question(kind, 0), question(kind, -1), question(kind, 0, 0))
	}
	return append(out, question(api.DalangNever, 3), question(api.DalangCan, 4), question(api.DalangFirst, 4))
}

// questions are all that a desk of a suite can be asked, and some that it cannot.
func questions(s api.DalangSuite) []api.DalangQuestion {
	out := []api.DalangQuestion{question(0), question(api.DalangNight, 1)}
	for kind := api.DalangNight; kind <= api.DalangStands; kind++ {
		n := 0
		switch kind {
		case api.DalangNever:
			n = s.Book.Tunes + 1
		case api.DalangCan, api.DalangFirst:
			n = len(s.Play.Scenes) + 1
		case api.DalangOut:
			n = len(s.Play.Figures) + 1
		default:
			out = append(out, question(kind))
		}
		for n := range n {
			out = append(out, question(kind, n))
		}
	}
	return out
}

func open(t *testing.T, s api.DalangSuite) *dalang.Desk {
	t.Helper()
	d, e := dalang.Open(s)
	if e != api.OK || d == nil {
		t.Fatal(s, e)
	}
	return d
}

// enter makes entries of which each must go.
func enter(t *testing.T, d *dalang.Desk, list ...api.DalangEntry) {
	t.Helper()
	for n, x := range list {
		if e := d.Enter(x); e != api.OK {
			t.Fatal(n, x, e)
		}
	}
}

// wholeOf returns all that a desk tells.
func wholeOf(d *dalang.Desk, s api.DalangSuite) string {
	return fmt.Sprint(d.Journal()) + answersOf(d, s, true)
}

// answersOf returns all answers of a desk, with those to stands or without them.
func answersOf(d *dalang.Desk, s api.DalangSuite, stands bool) string {
	var out []string
	for _, q := range questions(s) {
		if q.Kind == api.DalangStands && !stands {
			continue
		}
		y, e := d.Ask(q)
		out = append(out, fmt.Sprint(q, y, e))
	}
	return strings.Join(out, "\n")
}

func mustAnswer(t *testing.T, d *dalang.Desk, q api.DalangQuestion, want []int, wanted api.Errno) {
	t.Helper()
	if y, e := d.Ask(q); e != wanted || !slices.Equal(y, want) {
		t.Error(q, y, e, "and not", want, wanted)
	}
}

func random(seed uint64) *rand.Rand { return rand.New(rand.NewPCG(seed, 10)) }

// some returns some of the first numbers, in increasing order.
func some(g *rand.Rand, numbers, rare int) []int {
	var out []int
	for n := range numbers {
		if g.IntN(rare) == 0 {
			out = append(out, n)
		}
	}
	return out
}

// randomPlan is possible, and often not with a later Begin.
func randomPlan(g *rand.Rand) api.NightPlan {
	for {
		p := api.NightPlan{Begin: g.IntN(20), Stars: [2]api.Span{sp(20, 20+g.IntN(20)), sp(40, 40+g.IntN(20))}, Dawn: sp(60, 60+g.IntN(20))}
		for part := range 3 {
			for range 1 + g.IntN(2) {
				least := 1 + g.IntN(20)
				p.Scenes = append(p.Scenes, api.NightScene{Part: part, Least: least, Most: least + g.IntN(20), Loose: g.IntN(2) == 0, Wants: -1})
			}
		}
		if _, _, e := night.Programme(p); e == api.OK {
			return p
		}
	}
}

func randomBook(g *rand.Rand) api.CueBook {
	b := api.CueBook{Cues: 1 + g.IntN(3), Tunes: 1 + g.IntN(3)}
	for range 1 + g.IntN(4) {
		var v api.CueVersion
		states := 1 + g.IntN(3)
		for range states {
			var moves []api.CueMove
			for range b.Cues {
				moves = append(moves, api.CueMove{Next: g.IntN(states), Tune: g.IntN(b.Tunes)})
			}
			v.States = append(v.States, moves)
		}
		b.Versions = append(b.Versions, v)
	}
	return b
}

func randomStem(g *rand.Rand, figures int) api.StemPlay {
	var p api.StemPlay
	for range 2 + g.IntN(5) {
		p.Heights = append(p.Heights, 1+g.IntN(5))
	}
	p.Left = g.IntN(len(p.Heights) + 1)
	for range figures {
		p.Figures = append(p.Figures, api.StemFigure{Side: api.StemSide(1 + g.IntN(3)), Rank: 2 + g.IntN(5), Hands: 1 + g.IntN(4)/3})
	}
	for range 1 + g.IntN(5) {
		s := api.StemScene{Moved: some(g, figures, 4), Knocks: g.IntN(3), Taken: some(g, len(p.Heights), 5)}
		for _, figure := range some(g, figures, 3) {
			if !slices.Contains(s.Moved, figure) && len(s.Rest) < 4 {
				s.Rest = append(s.Rest, figure)
			}
		}
		p.Scenes = append(p.Scenes, s)
	}
	return p
}

// randomRegister has hides of which some can be mistaken.
func randomRegister(g *rand.Rand, hides int) api.HideRegister {
	r := api.HideRegister{Along: sp(990, 990+g.IntN(20)), Across: sp(985, 985+g.IntN(20)), Off: 1 + g.IntN(2), Mends: g.IntN(3)}
	for range 1 + g.IntN(3) {
		r.Kinds = append(r.Kinds, api.HideKind(1+g.IntN(2)))
	}
	r.Mends = min(r.Mends, len(r.Kinds)-1)
	for range hides {
		var sizes []int
		for range r.Kinds {
			sizes = append(sizes, 100+g.IntN(20))
		}
		r.Hides = append(r.Hides, sizes)
	}
	return r
}

func randomChest(g *rand.Rand, figures int) api.ChestList {
	c := api.ChestList{Room: 6 + g.IntN(15), Depth: 1 + g.IntN(4)}
	for range figures {
		evening := g.IntN(3)
		c.Figures = append(c.Figures, api.ChestFigure{Size: 1 + g.IntN(5), Rank: 5 - evening + g.IntN(4)/3*(g.IntN(3)-1), Evening: evening})
		c.Figures[len(c.Figures)-1].Rank = min(c.Figures[len(c.Figures)-1].Rank, 5)
	}
	return c
}

func randomSuite(g *rand.Rand) api.DalangSuite {
	figures := 1 + g.IntN(5)
	return api.DalangSuite{Plan: randomPlan(g), Book: randomBook(g), Play: randomStem(g, figures), Register: randomRegister(g, figures), Chest: randomChest(g, figures)}
}

// randomEntry often goes, and is nearly always formed.
func randomEntry(g *rand.Rand, s api.DalangSuite) api.DalangEntry {
	figure, tune := g.IntN(len(s.Play.Figures)+1), g.IntN(s.Book.Tunes+1)
	if g.IntN(2) == 0 {
		figure, tune = 0, 0
	}
	kinds := []api.DalangKind{api.DalangWait, api.DalangBegin, api.DalangCue, api.DalangCue, api.DalangKnock, api.DalangKnock, api.DalangRest, api.DalangRest, api.DalangPlay, api.DalangPlay, api.DalangLend, api.DalangBack, api.DalangBack, api.DalangBack, api.DalangPack, api.DalangPack, api.DalangUnpack, api.DalangUndo}
	switch kind := kinds[g.IntN(len(kinds))]; kind {
	case api.DalangWait:
		return entry(kind, g.IntN(60))
	case api.DalangBegin:
		return entry(kind, g.IntN(40))
	case api.DalangCue:
		return entry(kind, g.IntN(s.Book.Cues+1), tune)
	case api.DalangKnock:
		return entry(kind, g.IntN(s.Book.Cues+1))
	case api.DalangPlay:
		return entry(kind, g.IntN(len(s.Play.Scenes)+1))
	case api.DalangLend:
		return entry(kind, figure)
	case api.DalangBack:
		return entry(kind, append(l(figure), randomFind(g, s.Register, figure)...)...)
	case api.DalangPack:
		return entry(kind, randomPacking(g, s.Chest)...)
	default:
		return entry(kind)
	}
}

// randomFind returns readings that are near those of a hide.
func randomFind(g *rand.Rand, r api.HideRegister, hide int) []int {
	var out []int
	for measure := range len(r.Kinds) + g.IntN(9)/8 {
		size := 100
		if hide < len(r.Hides) && measure < len(r.Kinds) {
			size = r.Hides[hide][measure]
		}
		out = append(out, size-3+g.IntN(7))
	}
	return out
}

// randomPacking is often right, if there is one that is.
func randomPacking(g *rand.Rand, c api.ChestList) []int {
	packing, _, _ := chest.Best(c)
	if len(packing) == 0 {
		packing = slices.Repeat(l(0), len(c.Figures))
	}
	switch g.IntN(3) {
	case 0:
		packing[g.IntN(len(packing))] = g.IntN(c.Depth + 1)
	case 1:
		packing = packing[:len(packing)-g.IntN(2)]
	}
	return packing
}

// met counts how often something was met in a test.
type met map[string]int

func (m met) note(things ...any) { m[fmt.Sprint(things...)]++ }

func (m met) atLeast(t *testing.T, many int, things ...string) {
	t.Helper()
	for _, thing := range things {
		if m[thing] < many {
			t.Error(thing, "was met too rarely:", m)
		}
	}
}
