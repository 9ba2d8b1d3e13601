package joint_test

import (
	"fmt"
	"reflect"
	"slices"
	"testing"

	"kelir/api"
	"kelir/joint"
)

func wider(f api.JointField, by int) api.JointField {
	return field(f.X.Low-by, f.X.High+by, f.Y.Low-by, f.Y.High+by)
}

// P2.10: a field that is wider never makes a way longer.
func TestWiderField(t *testing.T) {
	g := random(41)
	shorter := 0
	for range 300 {
		f, s, fine := randomCase(g, 300)
		wide := s
		wide.Hands = slices.Clone(s.Hands)
		switch by := 1 + g.IntN(30); g.IntN(3) {
		case 0:
			wide.Edge = wider(s.Edge, by)
		case 1:
			wide.Hands[0] = wider(s.Hands[0], by)
		default:
			wide.Hands[1] = wider(s.Hands[1], by)
		}
		from, to := fine[g.IntN(len(fine))], fine[g.IntN(len(fine))]
		before, e := joint.Path(f, s, from, to)
		after, wideE := joint.Path(f, wide, from, to)
		if e == api.OK && (wideE != api.OK || len(after) > len(before)) {
			t.Fatal(f, s, wide, from, to, before, after, e, wideE)
		}
		if e != wideE || len(after) < len(before) {
			shorter++
		}
	}
	if shorter == 0 {
		t.Error("no way became shorter")
	}
}

// P0.2: a pose that is asked of a figure is reached by the fewest turns, or there is no way; and where an end can be is returned.
func TestAskedOfFigure(t *testing.T) {
	f, s := figureA(), stageS()
	if way, e := joint.Path(f, s, l(0, 0, 2), l(-1, 2, 3)); e != api.OK || len(way) != 4 {
		t.Error(way, e)
	}
	if way, e := joint.Path(f, tornStage(), l(0, 0, 2), l(-1, 2, 3)); e != api.ErrNone || len(way) > 0 {
		t.Error(way, e)
	}
	if y, e := joint.Reach(f, 1); e != api.OK || len(y) != 9 {
		t.Error(y, e)
	}
}

// No argument is changed, results share no memory, and two calls have equal results (R4, R8).
func TestMemory(t *testing.T) {
	f, s := figureA(), stageS()
	from, to := l(0, 0, 2), l(-1, 2, 3)
	poses := [][]int{l(-1, 1, 2), l(0, 1, 2)}
	for i, call := range []func() any{
		func() any { y, _ := joint.Ends(f, from); return y },
		func() any { y, _ := joint.Reach(f, 1); return y },
		func() any { y, _ := joint.Known(f, 1, at(19, 5)); return y },
		func() any { y, _, _ := joint.First(f, s); return y },
		func() any { y, _ := joint.Path(f, s, from, to); return y },
		func() any { y, _, _ := joint.Aim(f, s, from, 1, at(21, 0)); return y },
		func() any { y, _ := joint.Spread(f, from, 1); return y },
		func() any { y, _ := joint.Proof(f, s, poses[0]); return y },
		func() any { y, _ := joint.Mends(f, s, poses); return y },
		func() any { y, _ := joint.Read("figure 2\nlimb -1 3 -1 1 0\nend 051\n"); return y.Limbs },
	} {
		one, other := call(), call()
		before := fmt.Sprint(other)
		if fmt.Sprint(one) != before || reflect.ValueOf(one).Len() == 0 {
			t.Error(i, one, other)
		}
		for n := range reflect.ValueOf(one).Len() {
			reflect.ValueOf(one).Index(n).Set(reflect.Zero(reflect.TypeOf(one).Elem()))
		}
		if fmt.Sprint(other) != before || fmt.Sprint(call()) != before {
			t.Error(i, "results share memory", other)
		}
	}
	for range 2 {
		joint.Check(f)
		joint.Print(f)
		joint.Fine(f, s, from)
		joint.Parts(f, s)
		joint.Sure(f, s, from)
	}
	if !same(f, figureA()) || !reflect.DeepEqual(s, stageS()) || !slices.Equal(from, l(0, 0, 2)) || !slices.Equal(to, l(-1, 2, 3)) || !reflect.DeepEqual(poses, [][]int{l(-1, 1, 2), l(0, 1, 2)}) {
		t.Error("an argument was changed")
	}
}

// P0.1: the longest searches end.
func TestGreatest(t *testing.T) {
	f, s := greatest(), wideStage()
	first, last := l(-2, -2, -2, 1, -4), l(2, 2, 2, 4, -1)
	if y, n, e := joint.First(f, s); e != api.OK || n != 2000 || !slices.Equal(y, first) {
		t.Error(y, n, e)
	}
	if y, e := joint.Path(f, s, first, last); e != api.OK || len(y) != 18 || y[0] != turn(0, 1) || y[17] != turn(4, 1) {
		t.Error(y, e)
	}
	if n, e := joint.Parts(f, s); e != api.OK || n != 1 {
		t.Error(n, e)
	}
	if word, e := joint.Sure(f, s, l(0, 0, 0, 2, -2)); e != api.OK || word != surely {
		t.Error(word, e)
	}
	if y, e := joint.Mends(f, s, slices.Repeat([][]int{l(0, 0, 0, 2, -2)}, 6)); e != api.OK || len(y) > 0 {
		t.Error(y, e)
	}
	if y, e := joint.Reach(f, 4); e != api.OK || !slices.Equal(y, slowPlaces(f, allPoses(f), 4)) {
		t.Error(len(y), e)
	}
	ends := slowEnds(f, l(0, 0, 0, 2, -2))
	s.Edge, s.Rods = field(ends[4].X, 1000, -1000, 1000), l(0, 1)
	if _, e := joint.Mends(f, s, slices.Repeat([][]int{l(0, 0, 0, 2, -2)}, 6)); e != api.OK && e != api.ErrNone {
		t.Error(e)
	}
}
