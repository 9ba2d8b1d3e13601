package night

import (
	"cmp"
	"iter"
	"slices"

	"kelir/api"
)

const parts = 3

func windows(p api.NightPlan) [parts]minutes {
	return [parts]minutes{minutes(p.Stars[0]), minutes(p.Stars[1]), minutes(p.Dawn)}
}

// isChoice reports whether a list of numbers of scenes, in increasing order, is a choice.
func isChoice(p api.NightPlan, list []int) bool {
	played := map[int]bool{}
	for _, n := range list {
		played[n] = true
	}
	for n, s := range p.Scenes {
		if !played[n] && !s.Loose || played[n] && s.Wants >= 0 && !played[s.Wants] {
			return false
		}
	}
	return true
}

// choices returns all choices of a plan.
func choices(p api.NightPlan) iter.Seq[[]int] {
	return func(yield func([]int) bool) {
		var search func(n int, list []int) bool
		search = func(n int, list []int) bool {
			if n == len(p.Scenes) {
				return !isChoice(p, list) || yield(list)
			}
			if p.Scenes[n].Loose && !search(n+1, list) {
				return false
			}
			// The list without this scene may be in use already.
			return search(n+1, append(slices.Clone(list), n))
		}
		search(0, nil)
	}
}

// order compares choices: the one with more scenes comes first.
func order(a, b []int) int {
	return cmp.Or(cmp.Compare(len(b), len(a)), slices.Compare(a, b))
}

// best returns the thing that comes before all others, if there are any.
func best[T any](things []T, order func(a, b T) int) (T, bool) {
	var first T
	for n, thing := range things {
		if n == 0 || order(thing, first) < 0 {
			first = thing
		}
	}
	return first, len(things) > 0
}

// in returns the scenes of a choice that are in a part.
func in(p api.NightPlan, choice []int, part int) []int {
	var list []int
	for _, n := range choice {
		if p.Scenes[n].Part == part {
			list = append(list, n)
		}
	}
	return list
}

// lasts returns how long a part with these scenes can be.
func lasts(p api.NightPlan, scenes []int) minutes {
	var least, most []int
	for _, n := range scenes {
		least = append(least, p.Scenes[n].Least)
		most = append(most, p.Scenes[n].Most)
	}
	return minutes{sum(least...), sum(most...)}
}

func fits(p api.NightPlan, choice, lengths []int) bool {
	played := 0
	for part, window := range windows(p) {
		played += len(in(p, choice, part))
		if !window.has(at(sum(p.Begin, sum(lengths[:played]...)))) {
			return false
		}
	}
	return true
}
