package joint

import (
	"cmp"
	"iter"
	"slices"

	"kelir/api"
)

// direction is one of the eight directions of limbs.
type direction int

const (
	east direction = iota
	northeast
	north
	northwest
	west
	southwest
	south
	southeast
	directions
)

func (d direction) step() api.JointPlace {
	return [directions]api.JointPlace{
		east:      {X: 7, Y: 0},
		northeast: {X: 5, Y: 5},
		north:     {X: 0, Y: 7},
		northwest: {X: -5, Y: 5},
		west:      {X: -7, Y: 0},
		southwest: {X: -5, Y: -5},
		south:     {X: 0, Y: -7},
		southeast: {X: 5, Y: -5},
	}[d]
}

// turned expects a turn of not more than a full one to either side.
func (d direction) turned(turn int) direction {
	return (d + direction(turn) + directions) % directions
}

// steps returns the step of a direction so many times.
func (d direction) steps(many int) api.JointPlace {
	step := d.step()
	return api.JointPlace{X: many * step.X, Y: many * step.Y}
}

func sum(steps ...api.JointPlace) api.JointPlace {
	var all api.JointPlace
	for _, step := range steps {
		all.X += step.X
		all.Y += step.Y
	}
	return all
}

// pose has a turn for each limb, and 0 behind them, so that it can be the key of a map.
type pose [api.JointLimbs]int

func poseOf(list []int) pose {
	var p pose
	copy(p[:], list)
	return p
}

// after returns what a pose becomes by a turn, whether it is a pose of the figure or not.
func (p pose) after(turn api.JointTurn) pose {
	p[turn.Limb] += turn.By
	return p
}

// turnsOfLimb returns the turns that a limb has in poses.
func turnsOfLimb(limb api.JointLimb) api.Span { return api.Span{Low: limb.Low, High: limb.High} }

func turnsOf(f api.JointFigure) []api.Span {
	var bounds []api.Span
	for _, limb := range f.Limbs {
		bounds = append(bounds, turnsOfLimb(limb))
	}
	return bounds
}

// poses goes through all poses whose turns lie within bounds, in order.
func poses(bounds []api.Span) iter.Seq[pose] {
	return func(yield func(pose) bool) {
		var p pose
		var put func(limb int) bool
		put = func(limb int) bool {
			if limb == len(bounds) {
				return yield(p)
			}
			for turn := bounds[limb].Low; turn <= bounds[limb].High; turn++ {
				p[limb] = turn
				if !put(limb + 1) {
					return false
				}
			}
			return true
		}
		put(0)
	}
}

// ends returns the ends of all limbs.
func ends(f api.JointFigure, p pose) []api.JointPlace {
	out := make([]api.JointPlace, len(f.Limbs))
	var facing [api.JointLimbs]direction
	for n := range len(f.Limbs) {
		limb := f.Limbs[n]
		start, along := api.JointPlace{}, direction(f.Stand)
		if limb.Parent >= 0 {
			start, along = out[limb.Parent], facing[limb.Parent]
		}
		facing[n] = along.turned(p[n])
		out[n] = sum(start, facing[n].steps(limb.Length))
	}
	return out
}

// places returns where the end of a limb is in all poses whose turns lie within bounds.
func places(f api.JointFigure, bounds []api.Span, limb int) []api.JointPlace {
	var out []api.JointPlace
	for p := range poses(bounds) {
		out = append(out, ends(f, p)[limb])
	}
	slices.SortFunc(out, func(a, b api.JointPlace) int {
		return cmp.Or(cmp.Compare(a.X, b.X), cmp.Compare(a.Y, b.Y))
	})
	return slices.Compact(out)
}

// nowhere is why a search is given up: no pose has the end at the place.
type nowhere struct{}

// known returns the bounds of the turns in all poses in which the end of a limb is at a place.
func known(f api.JointFigure, limb int, at api.JointPlace) (bounds []api.Span, e api.Errno) {
	defer func() {
		switch found := recover().(type) {
		case nil:
		case nowhere:
			bounds, e = nil, api.ErrRule
		default:
			panic(found)
		}
	}()
	return boundsOf(posesAt(f, limb, at), len(f.Limbs)), api.OK
}

// posesAt returns all poses in which the end of a limb is at a place. It gives up if there is none.
func posesAt(f api.JointFigure, limb int, at api.JointPlace) []pose {
	var list []pose
	for p := range poses(turnsOf(f)) {
		if ends(f, p)[limb] == at {
			list = append(list, p)
		}
	}
	if len(list) == 0 {
		panic(nowhere{})
	}
	return list
}

// boundsOf returns the least and the greatest turns of so many limbs in some poses. There must be at least one.
func boundsOf(list []pose, limbs int) []api.Span {
	out := make([]api.Span, limbs)
	for limb := range limbs {
		turn := func(p pose) int { return p[limb] }
		out[limb].Low = turn(best(list, turn))
		out[limb].High = turn(best(list, func(p pose) int { return -turn(p) }))
	}
	return out
}

// best returns the first one of some things with the least cost. There must be at least one.
func best[T any](things []T, cost func(T) int) T {
	found := things[0]
	least := cost(found)
	for _, thing := range things[1:] {
		if c := cost(thing); c < least {
			found, least = thing, c
		}
	}
	return found
}
