package joint_test

import (
	"math/bits"
	"slices"
	"testing"

	"kelir/api"
	"kelir/joint"
)

const never, may, surely = api.JointNever, api.JointMay, api.JointSurely

// P2.7: joints are off by up to their Wear, but not below their Low or above their High.
func TestSpread(t *testing.T) {
	for i, x := range []struct {
		f    api.JointFigure
		pose []int
		limb int
		want []api.JointPlace
	}{
		{figureA(), l(0, 1, 2), 1, []api.JointPlace{at(14, 7), at(19, 5), at(21, 0)}},
		{figureA(), l(0, 0, 2), 1, []api.JointPlace{at(19, 5), at(21, 0)}},
		{figureA(), l(0, 1, 2), 0, []api.JointPlace{at(14, 0)}},
		{figureA(), l(0, 1, 3), 2, []api.JointPlace{at(-15, 15), at(0, 21)}},
		{fig(0, limb(-1, 1, -4, 4, 2)), l(0), 0, []api.JointPlace{at(0, -7), at(0, 7), at(5, -5), at(5, 5), at(7, 0)}},
		{fig(0, limb(-1, 1, -4, 4, 2)), l(4), 0, []api.JointPlace{at(-7, 0), at(-5, 5), at(0, 7)}},
		{fig(0, limb(-1, 1, -4, 4, 2)), l(-3), 0, []api.JointPlace{at(-7, 0), at(-5, -5), at(0, -7), at(5, -5)}},
		// limbs that are off to one side and to the other one end where they were put
		{fig(0, limb(-1, 1, 0, 1, 1), limb(0, 1, -4, -3, 1)), l(0, -4), 1, []api.JointPlace{at(0, 0), at(2, -5), at(5, -2)}},
	} {
		if y, e := joint.Spread(x.f, x.pose, x.limb); e != api.OK || !slices.Equal(y, x.want) {
			t.Error(i, y, e)
		}
	}
	g := random(21)
	for range 300 {
		f := randomFigure(g, 1, 300)
		pose, one := randomPose(g, f), g.IntN(len(f.Limbs))
		truths := slowTruths(f, pose)
		y, e := joint.Spread(f, pose, one)
		if e != api.OK || !slices.Equal(y, slowPlaces(f, truths, one)) {
			t.Fatal(f, pose, one, y, e)
		}
	}
}

func TestSpreadArguments(t *testing.T) {
	for i, f := range badFigures() {
		if y, e := joint.Spread(f, l(0, 0, 2), 0); e != api.ErrArg || len(y) > 0 {
			t.Error(i, y, e)
		}
	}
	for i, pose := range badPoses() {
		if y, e := joint.Spread(figureA(), pose, 0); e != api.ErrArg || len(y) > 0 {
			t.Error(i, y, e)
		}
	}
	for _, bad := range badLimbs() {
		if y, e := joint.Spread(figureA(), l(0, 0, 2), bad); e != api.ErrArg || len(y) > 0 {
			t.Error(bad, y, e)
		}
	}
}

// P2.7: the chapter's examples, and poses that are none.
func TestSureAndProof(t *testing.T) {
	for i, x := range []struct {
		s     api.JointStage
		pose  []int
		want  api.JointWord
		proof []int
		e     api.Errno
	}{
		{stageS(), l(0, 1, 2), surely, nil, api.ErrNone}, {stageS(), l(-1, 1, 2), may, l(-1, 0, 2), api.OK}, {stageS(), l(1, 0, 2), never, l(1, 0, 2), api.OK},
		{stageS(), l(-1, 0, 3), may, l(-1, 0, 2), api.OK}, {darkStage(), l(0, 1, 2), never, l(0, 0, 2), api.OK},
	} {
		if word, e := joint.Sure(figureA(), x.s, x.pose); e != api.OK || word != x.want {
			t.Error(i, word, e)
		}
		if y, e := joint.Proof(figureA(), x.s, x.pose); e != x.e || !slices.Equal(y, x.proof) {
			t.Error(i, y, e)
		}
	}
	for i, pose := range badPoses() {
		if word, e := joint.Sure(figureA(), stageS(), pose); e != api.ErrArg || word != 0 {
			t.Error(i, word, e)
		}
		if y, e := joint.Proof(figureA(), stageS(), pose); e != api.ErrArg || len(y) > 0 {
			t.Error(i, y, e)
		}
	}
}

// P2.7: whatever is true, a pose that surely is held is, and one that never is is not; the proof is the first truth that is not fine.
func TestTruths(t *testing.T) {
	g := random(22)
	met := map[api.JointWord]int{}
	for range 200 {
		f, s, fine := randomCase(g, 200)
		for range 10 {
			pose := randomPose(g, f)
			many, proof := 0, []int(nil)
			truths := slowTruths(f, pose)
			for _, truth := range truths {
				if holds(fine, truth) {
					many++
				} else if proof == nil {
					proof = truth
				}
			}
			word, e := joint.Sure(f, s, pose)
			if e != api.OK || (word == surely) != (many == len(truths)) || (word == never) != (many == 0) || word < never || word > surely {
				t.Fatal(f, s, pose, word, e, many)
			}
			met[word]++
			wanted := api.OK
			if proof == nil {
				wanted = api.ErrNone
			}
			if y, e := joint.Proof(f, s, pose); e != wanted || !slices.Equal(y, proof) {
				t.Fatal(f, s, pose, y, e, proof)
			}
		}
	}
	if min(met[never], met[may], met[surely]) < 20 {
		t.Error("too few of some word:", met)
	}
}

// mended returns a figure when the joints that are bits of a set are mended.
func mended(f api.JointFigure, set int) api.JointFigure {
	f.Limbs = slices.Clone(f.Limbs)
	for n := range f.Limbs {
		if set>>n&1 == 1 {
			f.Limbs[n].Wear = 0
		}
	}
	return f
}

func joints(set int) []int {
	var list []int
	for n := range api.JointLimbs {
		if set>>n&1 == 1 {
			list = append(list, n)
		}
	}
	return list
}

// P2.8: the chapter's examples, lists of poses, and the order of errors.
func TestMends(t *testing.T) {
	narrow := stageS()
	narrow.Hands = []api.JointField{field(15, 25, -5, 0), field(0, 5, 10, 25)}
	for i, x := range []struct {
		s     api.JointStage
		poses [][]int
		want  []int
		e     api.Errno
	}{
		{stageS(), [][]int{l(-1, 1, 2), l(0, 1, 2)}, l(1), api.OK}, {stageS(), [][]int{l(1, 0, 2)}, nil, api.ErrNone},
		{stageS(), nil, nil, api.OK}, {stageS(), [][]int{}, nil, api.OK}, {darkStage(), nil, nil, api.OK}, {darkStage(), [][]int{l(0, 1, 2)}, nil, api.ErrNone},
		{stageS(), [][]int{l(0, 1, 2)}, nil, api.OK}, {stageS(), [][]int{l(0, 1, 2), l(1, 0, 2)}, nil, api.ErrNone}, {stageS(), [][]int{l(0, 1, 2), l(-1, 1, 2)}, l(1), api.OK},
		{narrow, [][]int{l(-1, 2, 2)}, l(1, 2), api.OK},
		{stageS(), slices.Repeat([][]int{l(-1, 1, 2)}, 6), l(1), api.OK}, {stageS(), slices.Repeat([][]int{l(-1, 1, 2)}, 7), nil, api.ErrArg},
		{stageS(), slices.Repeat([][]int{nil}, 7), nil, api.ErrArg}, {stageS(), [][]int{l(1, 0, 2), nil}, nil, api.ErrArg},
	} {
		if y, e := joint.Mends(figureA(), x.s, x.poses); e != x.e || !slices.Equal(y, x.want) {
			t.Error(i, y, e)
		}
	}
	for i, pose := range badPoses() {
		if y, e := joint.Mends(figureA(), stageS(), [][]int{l(0, 1, 2), pose}); e != api.ErrArg || len(y) > 0 {
			t.Error(i, y, e)
		}
	}
}

// P2.8: of the lists that are enough and as short, the first one is returned: any one of the three joints is enough here, and then any two.
func TestMendsFirst(t *testing.T) {
	f := fig(0, limb(-1, 1, 0, 0, 0), limb(0, 1, 0, 1, 1), limb(1, 1, 0, 1, 1), limb(2, 1, 0, 1, 1))
	s := wideStage()
	s.Rods = l(0, 3)
	// the ends of the limb 3 by how many of the joints are off: at 28 0; 22 15, 24 10 or 26 5; and further from 28 0
	for i, x := range []struct {
		edge api.JointField
		want []int
	}{{field(0, 30, 0, 30), nil}, {field(0, 30, 0, 15), l(1)}, {field(0, 30, 0, 5), l(1, 2)}, {field(0, 30, 0, 0), l(1, 2, 3)}} {
		s.Edge = x.edge
		if y, e := joint.Mends(f, s, [][]int{l(0, 0, 0, 0)}); e != api.OK || !slices.Equal(y, x.want) {
			t.Error(i, y, e)
		}
	}
}

// P2.8: no fewer joints are enough, nor as many that come before.
func TestMendsIsLeast(t *testing.T) {
	g := random(23)
	met := map[int]int{}
	for range 300 {
		f, s, fine := randomCase(g, 200)
		var poses [][]int
		for range 1 + g.IntN(2) {
			poses = append(poses, fine[g.IntN(len(fine))])
		}
		if g.IntN(9) == 0 {
			poses = append(poses, randomPose(g, f))
		}
		want, e := []int(nil), api.ErrNone
		for set := range 1 << len(f.Limbs) {
			enough := true
			for _, pose := range poses {
				for _, truth := range slowTruths(mended(f, set), pose) {
					enough = enough && holds(fine, truth)
				}
			}
			if list := joints(set); enough && (e != api.OK || len(list) < len(want) || len(list) == len(want) && slices.Compare(list, want) < 0) {
				want, e = list, api.OK
			}
		}
		met[len(want)]++
		if y, found := joint.Mends(f, s, poses); found != e || !slices.Equal(y, want) {
			t.Fatal(f, s, poses, y, found, want, e)
		}
	}
	if min(met[0], met[1], met[2]) < 10 {
		t.Error("too few lists of some length:", met)
	}
}

// P2.10: a joint that is mended never makes unsure what was sure.
func TestMendedStaysSure(t *testing.T) {
	g := random(24)
	for range 300 {
		f, s, _ := randomCase(g, 300)
		pose := randomPose(g, f)
		set := g.IntN(1 << len(f.Limbs))
		before, _ := joint.Sure(f, s, pose)
		after, e := joint.Sure(mended(f, set), s, pose)
		if e != api.OK || before == surely && after != surely || before == never && after != never {
			t.Fatal(f, s, pose, set, before, after, e)
		}
		least, e := joint.Mends(f, s, [][]int{pose})
		if e != api.OK {
			continue
		}
		if less, e := joint.Mends(mended(f, set), s, [][]int{pose}); e != api.OK || len(less) > len(least) || len(less) > bits.OnesCount(uint(1<<len(f.Limbs)-1-set)) {
			t.Fatal(f, s, pose, set, least, less, e)
		}
	}
}
