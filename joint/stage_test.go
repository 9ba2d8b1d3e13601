package joint_test

import (
	"cmp"
	"maps"
	"math"
	"slices"
	"testing"

	"kelir/api"
	"kelir/joint"
)

func turn(limb, by int) api.JointTurn { return api.JointTurn{Limb: limb, By: by} }

func turned(pose []int, turn api.JointTurn) []int {
	out := slices.Clone(pose)
	out[turn.Limb] += turn.By
	return out
}

// P2.3: the chapter's examples, and bounds of fields.
func TestFine(t *testing.T) {
	stage := func(change func(*api.JointStage)) api.JointStage {
		s := stageS()
		change(&s)
		return s
	}
	for i, x := range []struct {
		s    api.JointStage
		pose []int
		want bool
	}{
		{stageS(), l(0, 0, 2), true}, {stageS(), l(1, 2, 2), false}, {stageS(), l(-1, 0, 2), false}, {stageS(), l(-1, 2, 3), true},
		// the ends are 14 0, 21 0 and 0 21
		{stage(func(s *api.JointStage) { s.Edge = field(0, 21, 0, 21) }), l(0, 0, 2), true},
		{stage(func(s *api.JointStage) { s.Edge = field(1, 21, 0, 21) }), l(0, 0, 2), false},
		{stage(func(s *api.JointStage) { s.Edge = field(0, 20, 0, 21) }), l(0, 0, 2), false},
		{stage(func(s *api.JointStage) { s.Edge = field(0, 21, 1, 21) }), l(0, 0, 2), false},
		{stage(func(s *api.JointStage) { s.Edge = field(0, 21, 0, 20) }), l(0, 0, 2), false},
		{stage(func(s *api.JointStage) { s.Hands[0], s.Hands[1] = field(21, 21, 0, 0), field(0, 0, 21, 21) }), l(0, 0, 2), true},
		{stage(func(s *api.JointStage) { s.Hands[0], s.Hands[1] = field(0, 0, 21, 21), field(21, 21, 0, 0) }), l(0, 0, 2), true},
		// one hand cannot hold both rods
		{stage(func(s *api.JointStage) { s.Hands[0], s.Hands[1] = everywhere(), field(-1, -1, 0, 0) }), l(0, 0, 2), false},
		{stage(func(s *api.JointStage) { s.Hands[0], s.Hands[1] = field(21, 21, 0, 0), field(21, 21, 0, 0) }), l(0, 0, 2), false},
		{stage(func(s *api.JointStage) { s.Hands[0], s.Hands[1] = everywhere(), everywhere() }), l(0, 0, 2), true},
		// the end of a limb without a rod need only lie in the Edge
		{stage(func(s *api.JointStage) { s.Hands[0], s.Rods = field(14, 14, 0, 0), l(0, 2) }), l(0, 0, 2), true},
		{stage(func(s *api.JointStage) { s.Hands[0], s.Rods = field(14, 14, 0, 0), l(2, 0) }), l(0, 0, 2), true},
		{stage(func(s *api.JointStage) { s.Hands[0] = field(14, 14, 0, 0) }), l(0, 0, 2), false},
	} {
		if is, e := joint.Fine(figureA(), x.s, x.pose); e != api.OK || is != x.want {
			t.Error(i, is, e)
		}
	}
	for i, pose := range badPoses() {
		if is, e := joint.Fine(figureA(), stageS(), pose); e != api.ErrArg || is {
			t.Error(i, is, e)
		}
	}
}

// A stage needs two different limbs, so there is none for a figure with one.
func TestStageOfOneLimb(t *testing.T) {
	for _, rods := range [][]int{l(0, 0), l(0, 1), l(-1, 0), l(0)} {
		s := wideStage()
		s.Rods = rods
		if is, e := joint.Fine(fig(0, limb(-1, 1, 0, 0, 0)), s, l(0)); e != api.ErrArg || is {
			t.Error(rods, is, e)
		}
	}
}

// All functions with a stage examine it, and the figure, before anything else.
func TestStageArguments(t *testing.T) {
	type arguments struct {
		f api.JointFigure
		s api.JointStage
	}
	var list []arguments
	for _, s := range badStages() {
		list = append(list, arguments{figureA(), s})
	}
	for _, f := range badFigures() {
		list = append(list, arguments{f, stageS()}, arguments{f, darkStage()})
	}
	for i, x := range list {
		pose := l(0, 0, 2)
		is, e0 := joint.Fine(x.f, x.s, pose)
		first, many, e1 := joint.First(x.f, x.s)
		way, e2 := joint.Path(x.f, x.s, pose, l(1, 0, 2))
		nearest, turns, e3 := joint.Aim(x.f, x.s, pose, 1, at(21, 0))
		parts, e4 := joint.Parts(x.f, x.s)
		word, e5 := joint.Sure(x.f, x.s, pose)
		proof, e6 := joint.Proof(x.f, x.s, pose)
		mends, e7 := joint.Mends(x.f, x.s, nil)
		for n, e := range []api.Errno{e0, e1, e2, e3, e4, e5, e6, e7} {
			if e != api.ErrArg {
				t.Error(i, n, e)
			}
		}
		if is || len(first)+many+len(way)+len(nearest)+turns+parts+int(word)+len(proof)+len(mends) != 0 {
			t.Error(i, "a result that is not zero")
		}
	}
}

// P2.3: it does not matter which hand is named first, nor which rod.
func TestFineAndFirst(t *testing.T) {
	if y, n, e := joint.First(figureA(), stageS()); e != api.OK || n != 10 || !slices.Equal(y, l(-1, 1, 2)) {
		t.Error(y, n, e)
	}
	if y, n, e := joint.First(figureA(), darkStage()); e != api.ErrNone || n != 0 || len(y) > 0 {
		t.Error(y, n, e)
	}
	g := random(11)
	for range 200 {
		f, s, fine := randomCase(g, 300)
		hands, rods := s, s
		hands.Hands = []api.JointField{s.Hands[1], s.Hands[0]}
		rods.Rods = l(s.Rods[1], s.Rods[0])
		for _, stage := range []api.JointStage{s, hands, rods} {
			if y, n, e := joint.First(f, stage); e != api.OK || n != len(fine) || !slices.Equal(y, fine[0]) {
				t.Fatal(f, stage, y, n, e)
			}
			for _, pose := range allPoses(f) {
				if is, e := joint.Fine(f, stage, pose); e != api.OK || is != holds(fine, pose) {
					t.Fatal(f, stage, pose, is, e)
				}
			}
		}
	}
}

func inOrder(a, b api.JointTurn) int {
	if a.Limb != b.Limb {
		return cmp.Compare(a.Limb, b.Limb)
	}
	return cmp.Compare(a.By, b.By)
}

// key is a pose of at most five limbs.
func key(pose []int) (k [api.JointLimbs]int) {
	copy(k[:], pose)
	return k
}

type reached struct {
	pose []int
	way  []api.JointTurn
}

// slowWays returns each pose to which there is a way, with its best way: all ways that are longer by one turn are compared.
func slowWays(fine [][]int, from []int) map[[api.JointLimbs]int]reached {
	among := map[[api.JointLimbs]int]bool{}
	for _, pose := range fine {
		among[key(pose)] = true
	}
	found := map[[api.JointLimbs]int]reached{key(from): {from, nil}}
	for last := maps.Clone(found); len(last) > 0; {
		next := map[[api.JointLimbs]int]reached{}
		for _, one := range last {
			for limb := range from {
				for _, by := range l(1, -1) {
					pose := turned(one.pose, turn(limb, by))
					way := append(slices.Clone(one.way), turn(limb, by))
					other, is := next[key(pose)]
					if _, before := found[key(pose)]; before || !among[key(pose)] || is && slices.CompareFunc(other.way, way, inOrder) < 0 {
						continue
					}
					next[key(pose)] = reached{pose, way}
				}
			}
		}
		maps.Copy(found, next)
		last = next
	}
	return found
}

// P2.4: the chapter's example, and the order of errors.
func TestPath(t *testing.T) {
	want := []api.JointTurn{turn(1, 1), turn(0, -1), turn(1, 1), turn(2, 1)}
	for i, x := range []struct {
		s        api.JointStage
		from, to []int
		want     []api.JointTurn
		e        api.Errno
	}{
		{stageS(), l(0, 0, 2), l(-1, 2, 3), want, api.OK},
		{stageS(), l(0, 0, 2), l(0, 0, 2), nil, api.OK},
		{tornStage(), l(0, 0, 2), l(0, 0, 2), nil, api.OK},
		{tornStage(), l(0, 0, 2), l(-1, 2, 2), nil, api.ErrNone},
		{tornStage(), l(-1, 2, 2), l(0, 0, 2), nil, api.ErrNone},
		{stageS(), l(1, 0, 2), l(0, 0, 2), nil, api.ErrRule},
		{stageS(), l(0, 0, 2), l(1, 0, 2), nil, api.ErrRule},
		{stageS(), l(1, 0, 2), l(1, 0, 2), nil, api.ErrRule},
		{darkStage(), l(0, 0, 2), l(0, 0, 2), nil, api.ErrRule},
	} {
		if y, e := joint.Path(figureA(), x.s, x.from, x.to); e != x.e || !slices.Equal(y, x.want) {
			t.Error(i, y, e)
		}
	}
	for i, pose := range badPoses() {
		for _, other := range [][]int{l(0, 0, 2), l(1, 0, 2), pose} {
			if y, e := joint.Path(figureA(), stageS(), pose, other); e != api.ErrArg || len(y) > 0 {
				t.Error(i, y, e)
			}
			if y, e := joint.Path(figureA(), stageS(), other, pose); e != api.ErrArg || len(y) > 0 {
				t.Error(i, y, e)
			}
		}
	}
}

// P2.4: each turn leads to a fine pose, the last one to the end, and no way has fewer turns or comes before.
func TestPathIsBest(t *testing.T) {
	g := random(12)
	none, round := 0, 0
	for range 1500 {
		f, s, fine := randomCase(g, 300)
		from, to := fine[g.IntN(len(fine))], fine[g.IntN(len(fine))]
		y, e := joint.Path(f, s, from, to)
		best, is := slowWays(fine, from)[key(to)]
		if !is {
			none++
			if e != api.ErrNone || len(y) > 0 {
				t.Fatal(f, s, from, to, y, e)
			}
			continue
		}
		if e != api.OK || !slices.Equal(y, best.way) {
			t.Fatal(f, s, from, to, y, e, best.way)
		}
		pose, apart := from, 0
		for _, turn := range y {
			if pose = turned(pose, turn); !holds(fine, pose) {
				t.Fatal(f, s, from, to, y, pose)
			}
		}
		for n := range to {
			apart += max(to[n]-from[n], from[n]-to[n])
		}
		if !slices.Equal(pose, to) {
			t.Fatal(f, s, from, to, y, pose)
		}
		if len(y) > apart {
			round++
		}
	}
	if none < 5 || round < 5 {
		t.Error("too few pairs without a way, or with a way round:", none, round)
	}
}

// P2.5: the chapter's examples, and the order of errors.
func TestAim(t *testing.T) {
	for i, x := range []struct {
		s    api.JointStage
		from []int
		limb int
		at   api.JointPlace
		want []int
		n    int
		e    api.Errno
	}{
		{stageS(), l(0, 0, 2), 1, at(15, -5), l(-1, 2, 2), 3, api.OK},
		{stageS(), l(0, 0, 2), 1, at(15, 15), nil, 0, api.ErrNone},
		{stageS(), l(0, 0, 2), 1, at(math.MaxInt, math.MinInt), nil, 0, api.ErrNone},
		{stageS(), l(0, 0, 2), 1, at(21, 0), l(0, 0, 2), 0, api.OK},
		{stageS(), l(0, 2, 3), 2, at(0, 21), l(0, 2, 2), 1, api.OK},
		{stageS(), l(0, 0, 2), 0, at(10, -10), l(-1, 1, 2), 2, api.OK},
		{tornStage(), l(0, 0, 2), 1, at(15, -5), nil, 0, api.ErrNone},
		{stageS(), l(1, 0, 2), 1, at(15, -5), nil, 0, api.ErrRule},
		{stageS(), l(1, 0, 2), 1, at(0, 0), nil, 0, api.ErrRule},
	} {
		if y, n, e := joint.Aim(figureA(), x.s, x.from, x.limb, x.at); e != x.e || n != x.n || !slices.Equal(y, x.want) {
			t.Error(i, y, n, e)
		}
	}
	for i, pose := range badPoses() {
		if y, n, e := joint.Aim(figureA(), stageS(), pose, 1, at(21, 0)); e != api.ErrArg || n != 0 || len(y) > 0 {
			t.Error(i, y, n, e)
		}
	}
	for _, bad := range badLimbs() {
		for _, pose := range [][]int{l(0, 0, 2), l(1, 0, 2)} {
			if y, n, e := joint.Aim(figureA(), stageS(), pose, bad, at(21, 0)); e != api.ErrArg || n != 0 || len(y) > 0 {
				t.Error(bad, y, n, e)
			}
		}
	}
}

// P2.5: of the poses that are as near, the first one is returned, and -4 and 4 are two poses with one end.
func TestAimFirst(t *testing.T) {
	f := fig(0, limb(-1, 1, -4, 4, 0), limb(-1, 1, 0, 0, 0))
	s := wideStage()
	s.Rods = l(0, 1)
	for _, x := range [][]int{{0, -4, 4}, {-1, -4, 3}, {1, 4, 3}} {
		if y, n, e := joint.Aim(f, s, l(x[0], 0), 0, at(-7, 0)); e != api.OK || n != x[2] || !slices.Equal(y, l(x[1], 0)) {
			t.Error(x, y, n, e)
		}
	}
}

// P2.5: no pose with the end at the place is nearer, or as near and before.
func TestAimIsNearest(t *testing.T) {
	g := random(13)
	none, several := 0, 0
	for range 1000 {
		f, s, fine := randomCase(g, 200)
		from, one := fine[g.IntN(len(fine))], g.IntN(len(f.Limbs))
		aim := slowEnds(f, fine[g.IntN(len(fine))])[one]
		var want []int
		many, ways := 0, slowWays(fine, from)
		for _, pose := range fine {
			if best, is := ways[key(pose)]; is && slowEnds(f, pose)[one] == aim {
				if len(want) > 0 {
					several++
				}
				if len(want) == 0 || len(best.way) < many {
					want, many = pose, len(best.way)
				}
			}
		}
		e := api.OK
		if len(want) == 0 {
			none++
			e = api.ErrNone
		}
		if y, n, found := joint.Aim(f, s, from, one, aim); found != e || n != many || !slices.Equal(y, want) {
			t.Fatal(f, s, from, one, aim, y, n, found, want, many)
		}
	}
	if none < 5 || several < 5 {
		t.Error("too few places without a pose, or with several ones:", none, several)
	}
}

// P2.6: between two fine poses in one part there is a way, and back, and between others there is none.
func TestParts(t *testing.T) {
	for i, x := range []struct {
		s    api.JointStage
		want int
	}{{stageS(), 1}, {tornStage(), 2}, {darkStage(), 0}} {
		if n, e := joint.Parts(figureA(), x.s); e != api.OK || n != x.want {
			t.Error(i, n, e)
		}
	}
	g := random(14)
	most := 0
	for range 200 {
		f, s, fine := randomCase(g, 100)
		var parts [][][]int
		for _, pose := range fine {
			part := slices.IndexFunc(parts, func(part [][]int) bool {
				_, e := joint.Path(f, s, part[0], pose)
				_, back := joint.Path(f, s, pose, part[0])
				if e != back || e != api.OK && e != api.ErrNone {
					t.Fatal(f, s, part[0], pose, e, back)
				}
				_, way := slowWays(fine, part[0])[key(pose)]
				if way != (e == api.OK) {
					t.Fatal(f, s, part[0], pose, e)
				}
				return e == api.OK
			})
			if part < 0 {
				parts = append(parts, [][]int{pose})
			} else {
				parts[part] = append(parts[part], pose)
			}
		}
		if n, e := joint.Parts(f, s); e != api.OK || n != len(parts) {
			t.Fatal(f, s, n, e, parts)
		}
		most = max(most, len(parts))
	}
	if most < 3 {
		t.Error("too few parts:", most)
	}
}
