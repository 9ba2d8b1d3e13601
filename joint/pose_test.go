package joint_test

import (
	"math"
	"slices"
	"testing"

	"kelir/api"
	"kelir/joint"
)

// P2.1: the figures that are as defined, at their limits, and those that are not.
func TestCheck(t *testing.T) {
	for i, f := range []api.JointFigure{
		figureA(), greatest(),
		fig(0, limb(-1, 1, 0, 0, 0)), fig(7, limb(-1, 20, -4, 4, 2)), fig(3, limb(-1, 1, -4, -4, 2)), fig(3, limb(-1, 1, 4, 4, 2)),
		fig(0, limb(-1, 1, 0, 0, 0), limb(0, 1, 0, 0, 0), limb(1, 1, 0, 0, 0), limb(2, 1, 0, 0, 0), limb(3, 1, 0, 0, 0)),
		fig(0, limb(-1, 1, 0, 0, 0), limb(-1, 1, 0, 0, 0), limb(-1, 1, 0, 0, 0), limb(0, 1, 0, 0, 0), limb(-1, 1, 0, 0, 0)),
		// 1944 poses
		fig(0, limb(-1, 1, -4, 4, 0), limb(-1, 1, -4, 4, 0), limb(-1, 1, 0, 3, 0), limb(-1, 1, 0, 2, 0), limb(-1, 1, 0, 1, 0)),
	} {
		if e := joint.Check(f); e != api.OK {
			t.Error(i, f, e)
		}
	}
	for i, f := range badFigures() {
		if e := joint.Check(f); e != api.ErrArg {
			t.Error(i, f, e)
		}
	}
}

// P2.1: the chapter's examples, each direction, and turns that add up to more than a full one.
func TestEnds(t *testing.T) {
	for i, x := range []struct {
		f    api.JointFigure
		pose []int
		want []api.JointPlace
	}{
		{figureA(), l(0, 0, 2), []api.JointPlace{at(14, 0), at(21, 0), at(0, 21)}},
		{figureA(), l(1, 2, 3), []api.JointPlace{at(10, 10), at(5, 15), at(-15, 15)}},
		{fig(0, limb(-1, 1, 0, 0, 0)), l(0), []api.JointPlace{at(7, 0)}},
		{fig(1, limb(-1, 1, 0, 0, 0)), l(0), []api.JointPlace{at(5, 5)}},
		{fig(2, limb(-1, 1, 0, 0, 0)), l(0), []api.JointPlace{at(0, 7)}},
		{fig(3, limb(-1, 1, 0, 0, 0)), l(0), []api.JointPlace{at(-5, 5)}},
		{fig(4, limb(-1, 1, 0, 0, 0)), l(0), []api.JointPlace{at(-7, 0)}},
		{fig(5, limb(-1, 1, 0, 0, 0)), l(0), []api.JointPlace{at(-5, -5)}},
		{fig(6, limb(-1, 1, 0, 0, 0)), l(0), []api.JointPlace{at(0, -7)}},
		{fig(7, limb(-1, 1, 0, 0, 0)), l(0), []api.JointPlace{at(5, -5)}},
		{fig(0, limb(-1, 20, -4, 4, 0)), l(-4), []api.JointPlace{at(-140, 0)}},
		{fig(0, limb(-1, 20, -4, 4, 0)), l(-1), []api.JointPlace{at(100, -100)}},
		{fig(7, limb(-1, 1, 4, 4, 0), limb(0, 1, 4, 4, 0), limb(1, 1, 4, 4, 0)), l(4, 4, 4), []api.JointPlace{at(-5, 5), at(0, 0), at(-5, 5)}},
		{fig(0, limb(-1, 1, -3, 0, 0), limb(0, 1, -3, 0, 0), limb(1, 1, -3, 0, 0), limb(2, 1, -3, 0, 0), limb(3, 1, -3, 0, 0)), l(-3, -3, -3, -3, -3), []api.JointPlace{at(-5, -5), at(-5, 2), at(0, -3), at(-7, -3), at(-2, 2)}},
	} {
		if y, e := joint.Ends(x.f, x.pose); e != api.OK || !slices.Equal(y, x.want) {
			t.Error(i, y, e)
		}
	}
	g := random(1)
	for range 500 {
		f := randomFigure(g, 1, 2000)
		pose := randomPose(g, f)
		if y, e := joint.Ends(f, pose); e != api.OK || !slices.Equal(y, slowEnds(f, pose)) {
			t.Fatal(f, pose, y, e)
		}
	}
}

func TestEndsArguments(t *testing.T) {
	for i, f := range badFigures() {
		for _, pose := range [][]int{nil, l(0, 0, 2), make([]int, len(f.Limbs))} {
			if y, e := joint.Ends(f, pose); e != api.ErrArg || len(y) > 0 {
				t.Error(i, y, e)
			}
		}
	}
	for i, pose := range badPoses() {
		if y, e := joint.Ends(figureA(), pose); e != api.ErrArg || len(y) > 0 {
			t.Error(i, y, e)
		}
	}
}

// P2.1: a turn moves the ends of this limb and of those that hang on it, and no other ones.
func TestTurnMoves(t *testing.T) {
	g := random(2)
	moved := 0
	for range 500 {
		f := randomFigure(g, 1, 2000)
		pose := randomPose(g, f)
		turned := g.IntN(len(f.Limbs))
		other := slices.Clone(pose)
		other[turned]++
		if other[turned] > f.Limbs[turned].High {
			continue
		}
		before, _ := joint.Ends(f, pose)
		after, e := joint.Ends(f, other)
		if e != api.OK || before[turned] == after[turned] {
			t.Fatal(f, pose, turned, before, after, e)
		}
		for n := range f.Limbs {
			if !slices.Contains(chain(f, n), turned) && before[n] != after[n] {
				t.Fatal(f, pose, turned, n, before, after)
			}
		}
		moved++
	}
	if moved < 100 {
		t.Error(moved)
	}
}

// P2.2.
func TestReach(t *testing.T) {
	want := []api.JointPlace{at(5, 15), at(10, 17), at(14, 7), at(15, -15), at(15, -5), at(15, 15), at(17, -10), at(19, 5), at(21, 0)}
	if y, e := joint.Reach(figureA(), 1); e != api.OK || !slices.Equal(y, want) {
		t.Error(y, e)
	}
	round := []api.JointPlace{at(-7, 0), at(-5, -5), at(-5, 5), at(0, -7), at(0, 7), at(5, -5), at(5, 5), at(7, 0)}
	if y, e := joint.Reach(fig(5, limb(-1, 1, -4, 4, 0)), 0); e != api.OK || !slices.Equal(y, round) {
		t.Error(y, e)
	}
	g := random(3)
	for range 200 {
		f := randomFigure(g, 1, 300)
		one := g.IntN(len(f.Limbs))
		y, e := joint.Reach(f, one)
		if e != api.OK || !slices.Equal(y, slowPlaces(f, allPoses(f), one)) {
			t.Fatal(f, one, y, e)
		}
		ends, _ := joint.Ends(f, randomPose(g, f))
		if !slices.Contains(y, ends[one]) {
			t.Fatal(f, one, y, ends)
		}
	}
	for i, f := range badFigures() {
		if y, e := joint.Reach(f, 0); e != api.ErrArg || len(y) > 0 {
			t.Error(i, y, e)
		}
	}
	for _, bad := range badLimbs() {
		if y, e := joint.Reach(figureA(), bad); e != api.ErrArg || len(y) > 0 {
			t.Error(bad, y, e)
		}
	}
}

// P2.2: the chapter's examples, places where no end is, and the order of errors.
func TestKnown(t *testing.T) {
	for i, x := range []struct {
		f    api.JointFigure
		limb int
		at   api.JointPlace
		want []api.Span
		e    api.Errno
	}{
		{figureA(), 1, at(19, 5), []api.Span{span(0, 0), span(1, 1), span(2, 3)}, api.OK},
		{figureA(), 2, at(0, 21), []api.Span{span(-1, 1), span(0, 2), span(2, 2)}, api.OK},
		{figureA(), 1, at(0, 0), nil, api.ErrRule},
		{figureA(), 1, at(5, 19), nil, api.ErrRule},
		{figureA(), 0, at(14, 1), nil, api.ErrRule},
		{figureA(), 0, at(15, 0), nil, api.ErrRule},
		{figureA(), 0, at(math.MinInt, math.MaxInt), nil, api.ErrRule},
		{figureA(), 3, at(0, 0), nil, api.ErrArg},
		{api.JointFigure{}, 0, at(0, 0), nil, api.ErrArg},
		{fig(0, limb(-1, 1, -4, 4, 0)), 0, at(-7, 0), []api.Span{span(-4, 4)}, api.OK},
		// the two limbs end where they began, in all opposite directions
		{fig(0, limb(-1, 3, -2, 2, 0), limb(0, 3, 3, 4, 0)), 1, at(0, 0), []api.Span{span(-2, 2), span(4, 4)}, api.OK},
	} {
		if y, e := joint.Known(x.f, x.limb, x.at); e != x.e || !slices.Equal(y, x.want) {
			t.Error(i, y, e)
		}
	}
	for i, f := range badFigures() {
		if y, e := joint.Known(f, 0, at(14, 0)); e != api.ErrArg || len(y) > 0 {
			t.Error(i, y, e)
		}
	}
	for _, bad := range badLimbs() {
		if y, e := joint.Known(figureA(), bad, at(14, 0)); e != api.ErrArg || len(y) > 0 {
			t.Error(bad, y, e)
		}
	}
}

// P2.2: if an end was seen, each turn lies within its bounds, and each end of them is reached.
func TestKnownBounds(t *testing.T) {
	g := random(4)
	for range 300 {
		f := randomFigure(g, 1, 300)
		one, pose := g.IntN(len(f.Limbs)), randomPose(g, f)
		seen := slowEnds(f, pose)[one]
		var poses [][]int
		for _, other := range allPoses(f) {
			if slowEnds(f, other)[one] == seen {
				poses = append(poses, other)
			}
		}
		y, e := joint.Known(f, one, seen)
		if e != api.OK || len(y) != len(f.Limbs) {
			t.Fatal(f, one, seen, y, e)
		}
		for n, bounds := range y {
			var turns []int
			for _, other := range poses {
				turns = append(turns, other[n])
			}
			if bounds != span(slices.Min(turns), slices.Max(turns)) || pose[n] < bounds.Low || pose[n] > bounds.High {
				t.Fatal(f, one, seen, n, bounds, turns)
			}
		}
	}
}
