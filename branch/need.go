package branch

import (
	"cmp"
	"slices"

	"kelir/api"
)

// enough returns lists of rules with which alone some play fits a night: those that derivations take. Any other such list has one of these in it.
func (t tale) enough(n api.BranchEvening) [][]int {
	var lists [][]int
	for d := range t.derivations {
		if (show{t.BranchStory, d.play, n}).fits() {
			rules := slices.Sorted(slices.Values(d.rules))
			lists = append(lists, slices.Compact(rules))
		}
	}
	return lists
}

// fewest puts shorter lists first, and those of one length in lexicographic order.
func fewest(a, b []int) int { return cmp.Or(len(a)-len(b), slices.Compare(a, b)) }

// best returns the first one of some things before which no other one comes, if there are any.
func best[T any](things []T, compare func(T, T) int) (T, bool) {
	var first T
	for n, thing := range things {
		if n == 0 || compare(thing, first) < 0 {
			first = thing
		}
	}
	return first, len(things) > 0
}

// inEach returns the rules that are in each of some lists, in increasing order.
func (t tale) inEach(lists [][]int) []int {
	var rules []int
	for n := range t.Rules {
		without := func(list []int) bool { return !slices.Contains(list, n) }
		if !slices.ContainsFunc(lists, without) {
			rules = append(rules, n)
		}
	}
	return rules
}
