package joint

import (
	"maps"
	"slices"

	"kelir/api"
)

// puppet is a figure on its stage.
type puppet struct {
	api.JointFigure
	stage api.JointStage
}

func (p puppet) good() bool { return goodFigure(p.JointFigure) && goodStage(p.JointFigure, p.stage) }

// list returns a pose as a list with a turn for each limb.
func (p puppet) list(one pose) []int { return slices.Clone(one[:len(p.Limbs)]) }

// end is where a limb ends.
type end api.JointPlace

func (e end) x() int { return e.X }

func (e end) y() int { return e.Y }

func (e end) in(f api.JointField) bool {
	coordinates := [2]func() int{e.x, e.y}
	for n, bounds := range [2]api.Span{f.X, f.Y} {
		if !within(coordinates[n](), bounds.Low, bounds.High) {
			return false
		}
	}
	return true
}

func (p puppet) fine(one pose) bool {
	all := ends(p.JointFigure, one)
	for _, place := range all {
		if !end(place).in(p.stage.Edge) {
			return false
		}
	}
	first, second := end(all[p.stage.Rods[0]]), end(all[p.stage.Rods[1]])
	left, right := p.stage.Hands[0], p.stage.Hands[1]
	return first.in(left) && second.in(right) || first.in(right) && second.in(left)
}

// finePoses returns all fine poses, in order.
func (p puppet) finePoses() []pose {
	var list []pose
	for one := range poses(turnsOf(p.JointFigure)) {
		if p.fine(one) {
			list = append(list, one)
		}
	}
	return list
}

// turns returns the turns of all limbs, in order.
func (p puppet) turns() []api.JointTurn {
	var list []api.JointTurn
	for limb := range len(p.Limbs) {
		for _, by := range [2]int{-1, 1} {
			list = append(list, api.JointTurn{Limb: limb, By: by})
		}
	}
	return list
}

// counts is by how many turns, at least, poses are reached.
type counts map[pose]int

// turns returns more than any way has if there is no way.
func (c counts) turns(one pose) int {
	if n, met := c[one]; met {
		return n
	}
	return api.JointPoses
}

// countTurns counts the turns from a fine pose to each one to which there is a way.
func (p puppet) countTurns(from pose) counts {
	turns := p.turns()
	counted := counts{from: 0}
	for queue := []pose{from}; len(queue) > 0; queue = queue[1:] {
		for _, turn := range turns {
			next := queue[0].after(turn)
			if _, met := counted[next]; met || !goodPose(p.JointFigure, p.list(next)) || !p.fine(next) {
				continue
			}
			counted[next] = counted[queue[0]] + 1
			queue = append(queue, next)
		}
	}
	return counted
}

// way returns the best way between two fine poses.
func (p puppet) way(from, to pose) ([]api.JointTurn, api.Errno) {
	// A way back has as many turns, so what is counted from its end is how many are left.
	left := p.countTurns(to)
	if _, met := left[from]; !met {
		return nil, api.ErrNone
	}
	var list []api.JointTurn
	at := from
	for range left[from] {
		turn := best(p.turns(), func(turn api.JointTurn) int { return left.turns(at.after(turn)) })
		list = append(list, turn)
		at = at.after(turn)
	}
	return list, api.OK
}

// metAt returns, in order, the poses that were counted in which the end of a limb is at a place.
func (p puppet) metAt(counted counts, limb int, at api.JointPlace) []pose {
	var list []pose
	for one := range poses(turnsOf(p.JointFigure)) {
		if _, met := counted[one]; met && ends(p.JointFigure, one)[limb] == at {
			list = append(list, one)
		}
	}
	return list
}

func (p puppet) parts() int {
	n := 0
	all := counts{}
	for _, one := range p.finePoses() {
		if _, met := all[one]; !met {
			n++
			maps.Copy(all, p.countTurns(one))
		}
	}
	return n
}
