package branch

import (
	"iter"
	"slices"

	"kelir/api"
)

// manyWays stands for any number of ways that is greater than a story may have.
const manyWays = api.BranchWays + 1

func motifs(s api.BranchStory) int { return s.Episodes + len(s.Scenes) }

// growth is in how many ways a motif becomes scenes, and how many of these it becomes at most.
type growth struct{ ways, long int }

// growths returns that of each motif.
func growths(s api.BranchStory) []growth {
	all := make([]growth, motifs(s))
	for n := range all {
		// A rule leads to greater numbers alone, so the last motif comes first.
		motif := len(all) - 1 - n
		if motif >= s.Episodes {
			all[motif] = growth{1, 1}
			continue
		}
		for _, rule := range s.Rules {
			if rule.From == motif {
				all[motif] = all[motif].or(growthOf(rule, all))
			}
		}
	}
	return all
}

// growthOf returns that of the motifs of a rule together.
func growthOf(rule api.BranchRule, all []growth) growth {
	var ways []int
	long := 0
	for _, motif := range rule.To {
		ways = append(ways, all[motif].ways)
		long += all[motif].long
	}
	return growth{times(ways...), long}
}

// or returns the growth of what can become one thing or the other. An int does not hold as many ways as there can be, so they are counted up to manyWays.
func (g growth) or(other growth) growth {
	if other.ways == 0 {
		return g
	}
	return growth{min(g.ways+other.ways, manyWays), max(g.long, other.long)}
}

func times(ways ...int) int {
	all := 1
	for _, n := range ways {
		all *= n
	}
	return all
}

// derivation is rules that are taken, and the play that comes out.
type derivation struct{ rules, play []int }

// tale is a story with its derivations, in order.
type tale struct {
	api.BranchStory
	derivations iter.Seq[derivation]
}

func taleOf(s api.BranchStory) tale { return tale{s, derivationsOf(s)} }

// derivationsOf goes through all derivations of a story. A rule with a motif that never becomes scenes is not taken, so each beginning leads to some derivation, and there are few of them.
func derivationsOf(s api.BranchStory) iter.Seq[derivation] {
	all := growths(s)
	return func(yield func(derivation) bool) {
		var derive func(rules, list []int) bool
		derive = func(rules, list []int) bool {
			first := slices.IndexFunc(list, func(motif int) bool { return motif < s.Episodes })
			if first < 0 {
				return yield(derivation{rules, scenesOf(s, list)})
			}
			for n := range len(s.Rules) {
				rule := s.Rules[n]
				if rule.From != list[first] || growthOf(rule, all).ways == 0 {
					continue
				}
				if !derive(slices.Concat(rules, []int{n}), slices.Concat(list[:first], rule.To, list[first+1:])) {
					return false
				}
			}
			return true
		}
		derive(nil, []int{0})
	}
}

// scenesOf returns the numbers of the scenes of motifs that are no episodes.
func scenesOf(s api.BranchStory, list []int) []int {
	var scenes []int
	for _, motif := range list {
		scenes = append(scenes, motif-s.Episodes)
	}
	return scenes
}

// deriving returns all derivations of a play.
func (t tale) deriving(play []int) []derivation {
	var list []derivation
	for d := range t.derivations {
		if slices.Equal(d.play, play) {
			list = append(list, d)
		}
	}
	return list
}
