package joint_test

import (
	"cmp"
	"math"
	"math/rand/v2"
	"slices"

	"kelir/api"
)

func l(n ...int) []int { return n }

func span(low, high int) api.Span { return api.Span{Low: low, High: high} }

func at(x, y int) api.JointPlace { return api.JointPlace{X: x, Y: y} }

func field(left, right, low, high int) api.JointField {
	return api.JointField{X: span(left, right), Y: span(low, high)}
}

func everywhere() api.JointField { return field(-1000, 1000, -1000, 1000) }

func limb(parent, length, low, high, wear int) api.JointLimb {
	return api.JointLimb{Parent: parent, Length: length, Low: low, High: high, Wear: wear}
}

func fig(stand int, limbs ...api.JointLimb) api.JointFigure {
	return api.JointFigure{Stand: stand, Limbs: limbs}
}

// figureA is the figure a of the chapter.
func figureA() api.JointFigure {
	return fig(0, limb(-1, 2, -1, 1, 0), limb(0, 1, 0, 2, 1), limb(-1, 3, 2, 3, 1))
}

// stageS is the stage s of the chapter.
func stageS() api.JointStage {
	return api.JointStage{
		Edge:  field(-20, 22, -12, 25),
		Hands: []api.JointField{field(10, 25, -12, 12), field(-20, 5, 10, 25)},
		Rods:  l(1, 2),
	}
}

// darkStage is a stage on which no pose of the figure a is fine.
func darkStage() api.JointStage {
	s := stageS()
	s.Edge = field(0, 0, 0, 0)
	return s
}

// tornStage is a stage on which the fine poses of the figure a are two parts.
func tornStage() api.JointStage {
	s := stageS()
	s.Hands[0] = field(15, 25, -5, 0)
	return s
}

// greatest is a figure with 2000 poses whose joints are as worn as they can be.
func greatest() api.JointFigure {
	return fig(7, limb(-1, 20, -2, 2, 2), limb(0, 20, -2, 2, 2), limb(1, 20, -2, 2, 2), limb(2, 20, 1, 4, 2), limb(3, 20, -4, -1, 2))
}

func wideStage() api.JointStage {
	return api.JointStage{Edge: everywhere(), Hands: []api.JointField{everywhere(), everywhere()}, Rods: l(4, 0)}
}

func badFigures() []api.JointFigure {
	out := []api.JointFigure{
		{}, fig(0), {Limbs: []api.JointLimb{}}, {Limbs: slices.Repeat([]api.JointLimb{limb(-1, 1, 0, 0, 0)}, 6)},
		// 2401, 2025 and 6561 poses, and 59049 of them
		fig(0, limb(-1, 1, -3, 3, 0), limb(-1, 1, -3, 3, 0), limb(-1, 1, -3, 3, 0), limb(-1, 1, -3, 3, 0)),
		fig(0, limb(-1, 1, -4, 4, 0), limb(-1, 1, -4, 4, 0), limb(-1, 1, 0, 4, 0), limb(-1, 1, 0, 4, 0)),
		fig(0, slices.Repeat([]api.JointLimb{limb(-1, 1, -4, 4, 0)}, 4)...),
		fig(0, slices.Repeat([]api.JointLimb{limb(-1, 1, -4, 4, 0)}, 5)...),
		// the product of as many turns as this is 0 in 64 bits
		fig(0, limb(-1, 1, -1<<62, 1<<62, 0), limb(-1, 1, -1<<62, 1<<62, 0)),
	}
	for _, change := range []func(*api.JointFigure){
		func(f *api.JointFigure) { f.Stand = -1 },
		func(f *api.JointFigure) { f.Stand = 8 },
		func(f *api.JointFigure) { f.Stand = math.MinInt },
		func(f *api.JointFigure) { f.Stand = math.MaxInt },
		func(f *api.JointFigure) { f.Limbs[0].Parent = 0 },
		func(f *api.JointFigure) { f.Limbs[0].Parent = -2 },
		func(f *api.JointFigure) { f.Limbs[0].Parent = math.MinInt },
		func(f *api.JointFigure) { f.Limbs[1].Parent = 1 },
		func(f *api.JointFigure) { f.Limbs[1].Parent = 2 },
		func(f *api.JointFigure) { f.Limbs[2].Parent = math.MaxInt },
		func(f *api.JointFigure) { f.Limbs[0].Length = 0 },
		func(f *api.JointFigure) { f.Limbs[1].Length = -1 },
		func(f *api.JointFigure) { f.Limbs[2].Length = 21 },
		func(f *api.JointFigure) { f.Limbs[2].Length = math.MaxInt },
		func(f *api.JointFigure) { f.Limbs[2].Length = math.MinInt },
		func(f *api.JointFigure) { f.Limbs[0].Low = 2 },
		func(f *api.JointFigure) { f.Limbs[2].High = 1 },
		func(f *api.JointFigure) { f.Limbs[0].Low = -5 },
		func(f *api.JointFigure) { f.Limbs[1].High = 5 },
		func(f *api.JointFigure) { f.Limbs[0].Low = math.MinInt },
		func(f *api.JointFigure) { f.Limbs[0].High = math.MaxInt },
		func(f *api.JointFigure) { f.Limbs[0].Low, f.Limbs[0].High = math.MinInt, math.MaxInt },
		func(f *api.JointFigure) { f.Limbs[0].Low, f.Limbs[0].High = math.MaxInt, math.MinInt },
		func(f *api.JointFigure) { f.Limbs[1].Low, f.Limbs[1].High = 5, 5 },
		func(f *api.JointFigure) { f.Limbs[1].Low, f.Limbs[1].High = -5, -5 },
		func(f *api.JointFigure) { f.Limbs[1].Wear = -1 },
		func(f *api.JointFigure) { f.Limbs[1].Wear = 3 },
		func(f *api.JointFigure) { f.Limbs[1].Wear = math.MinInt },
		func(f *api.JointFigure) { f.Limbs[1].Wear = math.MaxInt },
	} {
		f := figureA()
		change(&f)
		out = append(out, f)
	}
	return out
}

// badStages are stages that are not as defined for the figure a.
func badStages() []api.JointStage {
	out := []api.JointStage{{}}
	for _, bad := range []api.JointField{
		field(-1001, 0, 0, 0), field(0, 1001, 0, 0), field(1, 0, 0, 0), field(math.MinInt, 0, 0, 0), field(0, math.MaxInt, 0, 0),
		field(0, 0, -1001, 0), field(0, 0, 0, 1001), field(0, 0, 1, 0), field(0, 0, math.MinInt, math.MaxInt), field(0, 0, math.MaxInt, math.MinInt),
		field(1001, 1001, 0, 0), field(-1001, -1001, 0, 0), field(0, 0, 1001, 1001), field(0, 0, -1001, -1001),
	} {
		edge, first, second := stageS(), stageS(), stageS()
		edge.Edge, first.Hands[0], second.Hands[1] = bad, bad, bad
		out = append(out, edge, first, second)
	}
	for _, rods := range [][]int{
		nil, l(), l(1), l(2), l(1, 2, 0), l(1, 1), l(0, 0), l(1, 3), l(3, 1), l(-1, 1), l(1, -1), l(math.MinInt, 1), l(1, math.MaxInt),
	} {
		s := stageS()
		s.Rods = rods
		out = append(out, s)
	}
	for _, hands := range [][]api.JointField{nil, {}, {everywhere()}, {everywhere(), everywhere(), everywhere()}} {
		s := stageS()
		s.Hands = hands
		out = append(out, s)
	}
	return out
}

// badPoses are lists that are no poses of the figure a.
func badPoses() [][]int {
	return [][]int{
		nil, l(), l(0), l(0, 0), l(0, 0, 2, 0), l(-2, 0, 2), l(2, 0, 2), l(0, -1, 2), l(0, 3, 2), l(0, 0, 1), l(0, 0, 4),
		l(math.MinInt, 0, 2), l(0, math.MaxInt, 2), l(0, 0, math.MinInt), l(0, 0, math.MaxInt), l(0, 0, 2, 0, 0, 0),
	}
}

// badLimbs are no limbs of the figure a.
func badLimbs() []int { return l(-1, 3, math.MinInt, math.MaxInt) }

func random(seed uint64) *rand.Rand { return rand.New(rand.NewPCG(seed, 2)) }

// randomFigure has at least one limb and so many poses at most.
func randomFigure(g *rand.Rand, least, most int) api.JointFigure {
	f, poses := fig(g.IntN(8)), 1
	for n := range least + g.IntN(api.JointLimbs+1-least) {
		low := g.IntN(9) - 4
		high := min(api.JointBend, low+g.IntN(9))
		if poses*(high-low+1) > most {
			high = low
		}
		poses *= high - low + 1
		f.Limbs = append(f.Limbs, limb(g.IntN(n+1)-1, 1+g.IntN(4), low, high, g.IntN(3)))
	}
	return f
}

// around returns a field that has a place in it.
func around(g *rand.Rand, p api.JointPlace, most int) api.JointField {
	return field(p.X-g.IntN(most), p.X+g.IntN(most), p.Y-g.IntN(most), p.Y+g.IntN(most))
}

// randomStage is a stage for a figure with at least two limbs, on which some pose is fine.
func randomStage(g *rand.Rand, f api.JointFigure) api.JointStage {
	rods := g.Perm(len(f.Limbs))[:2]
	ends := slowEnds(f, randomPose(g, f))
	s := api.JointStage{Edge: field(-200, 200, -200, 200), Rods: rods}
	most := 10 + g.IntN(50)
	s.Hands = []api.JointField{around(g, ends[rods[0]], most), around(g, ends[rods[1]], most)}
	if g.IntN(2) == 0 {
		slices.Reverse(s.Hands)
	}
	if g.IntN(2) == 0 {
		s.Edge = around(g, ends[0], 60)
		for _, e := range ends {
			s.Edge.X = span(min(s.Edge.X.Low, e.X), max(s.Edge.X.High, e.X))
			s.Edge.Y = span(min(s.Edge.Y.Low, e.Y), max(s.Edge.Y.High, e.Y))
		}
	}
	return s
}

func randomPose(g *rand.Rand, f api.JointFigure) []int {
	var pose []int
	for _, limb := range f.Limbs {
		pose = append(pose, limb.Low+g.IntN(limb.High-limb.Low+1))
	}
	return pose
}

// randomCase is a figure on a stage, and its fine poses.
func randomCase(g *rand.Rand, most int) (api.JointFigure, api.JointStage, [][]int) {
	f := randomFigure(g, 2, most)
	s := randomStage(g, f)
	return f, s, slowFine(f, s)
}

// chain returns a limb with those on which it hangs.
func chain(f api.JointFigure, limb int) []int {
	var list []int
	for ; limb >= 0; limb = f.Limbs[limb].Parent {
		list = append(list, limb)
	}
	slices.Reverse(list)
	return list
}

func slowEnds(f api.JointFigure, pose []int) []api.JointPlace {
	xs, ys := l(7, 5, 0, -5, -7, -5, 0, 5), l(0, 5, 7, 5, 0, -5, -7, -5)
	var out []api.JointPlace
	for limb := range f.Limbs {
		p, turns := at(0, 0), f.Stand+80
		for _, part := range chain(f, limb) {
			turns += pose[part]
			p.X += f.Limbs[part].Length * xs[turns%8]
			p.Y += f.Limbs[part].Length * ys[turns%8]
		}
		out = append(out, p)
	}
	return out
}

// slowPoses returns the poses that lie in a box, in order.
func slowPoses(low, high []int) [][]int {
	out := [][]int{{}}
	for n := range low {
		var longer [][]int
		for _, pose := range out {
			for turn := low[n]; turn <= high[n]; turn++ {
				longer = append(longer, append(slices.Clone(pose), turn))
			}
		}
		out = longer
	}
	return out
}

func allPoses(f api.JointFigure) [][]int {
	var low, high []int
	for _, limb := range f.Limbs {
		low, high = append(low, limb.Low), append(high, limb.High)
	}
	return slowPoses(low, high)
}

func slowTruths(f api.JointFigure, pose []int) [][]int {
	var list [][]int
	for _, other := range allPoses(f) {
		near := true
		for n, limb := range f.Limbs {
			near = near && max(other[n]-pose[n], pose[n]-other[n]) <= limb.Wear
		}
		if near {
			list = append(list, other)
		}
	}
	return list
}

func lies(p api.JointPlace, f api.JointField) bool {
	return f.X.Low <= p.X && p.X <= f.X.High && f.Y.Low <= p.Y && p.Y <= f.Y.High
}

func slowIsFine(f api.JointFigure, s api.JointStage, pose []int) bool {
	ends := slowEnds(f, pose)
	for _, e := range ends {
		if !lies(e, s.Edge) {
			return false
		}
	}
	for hand := range 2 {
		if lies(ends[s.Rods[0]], s.Hands[hand]) && lies(ends[s.Rods[1]], s.Hands[1-hand]) {
			return true
		}
	}
	return false
}

func slowFine(f api.JointFigure, s api.JointStage) [][]int {
	var list [][]int
	for _, pose := range allPoses(f) {
		if slowIsFine(f, s, pose) {
			list = append(list, pose)
		}
	}
	return list
}

func slowPlaces(f api.JointFigure, poses [][]int, limb int) []api.JointPlace {
	var list []api.JointPlace
	for _, pose := range poses {
		if e := slowEnds(f, pose)[limb]; !slices.Contains(list, e) {
			list = append(list, e)
		}
	}
	slices.SortFunc(list, func(a, b api.JointPlace) int {
		if a.X != b.X {
			return cmp.Compare(a.X, b.X)
		}
		return cmp.Compare(a.Y, b.Y)
	})
	return list
}

func holds(list [][]int, pose []int) bool {
	return slices.ContainsFunc(list, func(other []int) bool { return slices.Equal(other, pose) })
}
