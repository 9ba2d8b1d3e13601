package stem

import (
	"iter"
	"slices"

	"kelir/api"
)

// and returns a list in increasing order to which a number was added.
func and(list []int, n int) []int {
	more := append(slices.Clone(list), n)
	slices.Sort(more)
	return more
}

// addToRest returns a scene with one figure more that rests, if it may have so many.
func addToRest(s api.StemScene, figure int) (api.StemScene, bool) {
	s.Rest = and(s.Rest, figure)
	return s, len(s.Rest) <= api.StemRest
}

// addToMoved returns a scene with one figure more that is moved.
func addToMoved(s api.StemScene, figure int) (api.StemScene, bool) {
	s.Moved = and(s.Moved, figure)
	return s, true
}

// fitting returns all figures that are not in a scene, and can be added to it in some way.
func fitting(p api.StemPlay, scene int, add func(api.StemScene, int) (api.StemScene, bool)) []int {
	s := p.Scenes[scene]
	var list []int
	for figure := range p.Figures {
		if slices.Contains(s.Moved, figure) || slices.Contains(s.Rest, figure) {
			continue
		}
		if more, may := add(s, figure); may && playable(alone(p, more)) {
			list = append(list, figure)
		}
	}
	return list
}

// lowered returns a play in which all Heights are less.
func lowered(p api.StemPlay, by int) api.StemPlay {
	p.Heights = slices.Clone(p.Heights)
	for place := range p.Heights {
		p.Heights[place] -= by
	}
	return p
}

// without returns a play in whose scenes some figures are missing.
func without(p api.StemPlay, figures []int) api.StemPlay {
	missing := func(figure int) bool { return slices.Contains(figures, figure) }
	p.Scenes = slices.Clone(p.Scenes)
	for n, s := range p.Scenes {
		p.Scenes[n].Moved = slices.DeleteFunc(slices.Clone(s.Moved), missing)
		p.Scenes[n].Rest = slices.DeleteFunc(slices.Clone(s.Rest), missing)
	}
	return p
}

// groups goes through all lists of so many numbers less than a limit, in increasing order, in order.
func groups(many, limit int) iter.Seq[[]int] {
	return func(yield func([]int) bool) {
		var choose func(list []int, from int) bool
		choose = func(list []int, from int) bool {
			if len(list) == many {
				return yield(slices.Clone(list))
			}
			for n := from; n < limit; n++ {
				if !choose(append(list, n), n+1) {
					return false
				}
			}
			return true
		}
		choose(nil, 0)
	}
}

// leaves returns the first one of the shortest lists of figures without which a play can be played.
func leaves(p api.StemPlay) []int {
	var list []int
search:
	for many := range len(p.Figures) + 1 {
		for figures := range groups(many, len(p.Figures)) {
			if playable(without(p, figures)) {
				list = figures
				break search
			}
		}
	}
	return list
}
