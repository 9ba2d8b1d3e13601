package hide

import (
	"slices"

	"kelir/api"
)

// duo is a register with two of its hides.
type duo struct {
	api.HideRegister
	one, other int
}

// apart reports whether each reading of a measure is a change of one of both hides, with a rate for each.
func (d duo) apart(measure, rate, otherRate int) bool {
	one, other := unchanged(d.HideRegister, d.one, measure, rate), unchanged(d.HideRegister, d.other, measure, otherRate)
	return one.High < other.Low || other.High < one.Low
}

// fewest returns how many of some measures, which have rates in one span, are apart at least.
func (d duo) fewest(measures []int, span api.Span) int {
	least := len(measures)
	for rate, otherRate := range pairs(span, span) {
		var marks []bool
		for _, measure := range measures {
			marks = append(marks, d.apart(measure, rate, otherRate))
		}
		least = min(least, count(marks...))
	}
	return least
}

// mistaken reports whether both hides can be mistaken by some measures. A measure that is apart must be changed in one of them, and any one that is not can be changed in neither.
func (d duo) mistaken(measures []int) bool {
	across := func(measure int) bool { return d.Kinds[measure] == api.HideAcross }
	along := func(measure int) bool { return !across(measure) }
	changes := d.fewest(slices.DeleteFunc(slices.Clone(measures), across), d.Along) + d.fewest(slices.DeleteFunc(slices.Clone(measures), along), d.Across)
	return changes <= d.Mends+d.Mends
}

// twins returns the first two hides that can be mistaken by some measures, if there are any.
func twins(r api.HideRegister, measures []int) (duo, bool) {
	var first duo
	found := false
search:
	for one := range len(r.Hides) {
		for other := one + 1; other < len(r.Hides); other++ {
			first = duo{r, one, other}
			if found = first.mistaken(measures); found {
				break search
			}
		}
	}
	return first, found
}

func enough(r api.HideRegister, measures []int) bool {
	_, found := twins(r, measures)
	return !found
}

func allMeasures(r api.HideRegister) []int {
	var list []int
	for measure := range len(r.Kinds) {
		list = append(list, measure)
	}
	return list
}

// plan returns the first one of the shortest lists of measures that are enough, if there are any.
func plan(r api.HideRegister) ([]int, bool) {
	var search func(list []int, next, more int) ([]int, bool)
	search = func(list []int, next, more int) ([]int, bool) {
		if more == 0 {
			return list, enough(r, list)
		}
		for measure := next; measure < len(r.Kinds); measure++ {
			longer := append(slices.Clone(list), measure)
			if whole, is := search(longer, measure+1, more-1); is {
				return whole, true
			}
		}
		return nil, false
	}
	for many := range len(r.Kinds) + 1 {
		if list, is := search(nil, 0, many); is {
			return list, true
		}
	}
	return nil, false
}
