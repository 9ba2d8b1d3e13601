package night

import (
	"slices"

	"kelir/api"
)

// sure reports whether some programme of a choice fits whatever hours there are.
func sure(p api.NightPlan, choice []int) bool {
	before := at(p.Begin)
	for part, window := range windows(p) {
		length := lasts(p, in(p, choice, part))
		// A part that comes to all its hours both from the first and from the last hour before it does so from those between them.
		for _, hour := range [2]func() int{before.earliest, before.latest} {
			if !at(hour()).plus(length).has(window) {
				return false
			}
		}
		before = window
	}
	return true
}

// long is how long the parts of a choice can be.
type long [parts]minutes

func allLong(p api.NightPlan) []long {
	var list []long
	for choice := range choices(p) {
		var one long
		for part := range parts {
			one[part] = lasts(p, in(p, choice, part))
		}
		list = append(list, one)
	}
	return list
}

// lasting returns those of which a part can last from a minute to another one.
func lasting(list []long, part, from, to int) []long {
	var out []long
	for _, one := range list {
		if one[part].has(at(to - from)) {
			out = append(out, one)
		}
	}
	return out
}

// missed returns the first hours that no programme fits, or none.
func missed(p api.NightPlan) []int {
	all, w := allLong(p), windows(p)
	var hours []int
search:
	for first := w[0].Low; first <= w[0].High; first++ {
		one := lasting(all, 0, p.Begin, first)
		for second := w[1].Low; second <= w[1].High; second++ {
			two := lasting(one, 1, first, second)
			for third := w[2].Low; third <= w[2].High; third++ {
				fit := func(one long) bool { return one[2].has(at(third - second)) }
				if !slices.ContainsFunc(two, fit) {
					hours = []int{first, second, third}
					break search
				}
			}
		}
	}
	return hours
}
