package cue

import (
	"iter"
	"slices"

	"kelir/api"
)

// misheard returns the list of cues for which a version plays tunes that differs from another one at the fewest places, and at how many, if there is any.
func misheard(cues int, v api.CueVersion, given, tunes []int) ([]int, int, bool) {
	mistakes := func(list cueList) int {
		n := 0
		for place, cue := range given {
			if list[place] != cue {
				n++
			}
		}
		return n
	}
	list, found := best(lists(v, cues, tunes), mistakes)
	if !found {
		return nil, 0, false
	}
	return slices.Clone(list[:len(given)]), mistakes(list), true
}

// danger returns the first list of cues, without those of a fence, after which a version plays a tune, if there is any.
func danger(cues int, v api.CueVersion, tune int, fence []int) ([]int, bool) {
	const played = 1
	next := func(m moment, cue int) moment {
		if slices.Contains(fence, cue) {
			// A moment that was met already is not searched again.
			return m
		}
		p := player{v, m[0].state}
		m[0] = place{state: p.next(cue)}
		if p.tune(cue) == tune {
			m[0].mark = played
		}
		return m
	}
	return search(cues, moment{}, next, func(m moment) bool { return m[0].mark == played })
}

// never returns all cues with which some player plays a tune at once.
func never(cues int, players []player, tune int) []int {
	var list []int
	for cue := range cues {
		plays := func(p player) bool { return p.tune(cue) == tune }
		if slices.ContainsFunc(players, plays) {
			list = append(list, cue)
		}
	}
	return list
}

// rising goes through all lists of cues in increasing order, in lexicographic order.
func rising(cues int) iter.Seq[[]int] {
	return func(yield func([]int) bool) {
		var give func(list []int, from int) bool
		give = func(list []int, from int) bool {
			if !yield(list) {
				return false
			}
			for cue := from; cue < cues; cue++ {
				if !give(append(slices.Clone(list), cue), cue+1) {
					return false
				}
			}
			return true
		}
		give(nil, 0)
	}
}

// fence returns the shortest list of cues without which a version never plays a tune.
func fence(cues int, v api.CueVersion, tune int) []int {
	var fences [][]int
	for list := range rising(cues) {
		if _, found := danger(cues, v, tune, list); !found {
			fences = append(fences, list)
		}
	}
	// The list of all cues is a fence, so there is one.
	shortest, _ := best(slices.Values(fences), func(list []int) int { return len(list) })
	return shortest
}
