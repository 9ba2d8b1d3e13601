package hide

import (
	"slices"

	"kelir/api"
)

// candidates returns the rates that fit, for each hide that may be the one.
func (f found) candidates() map[int][]trial {
	may := map[int][]trial{}
	for hide := range len(f.Hides) {
		if fits := f.fitting(hide); len(fits) > 0 {
			may[hide] = fits
		}
	}
	return may
}

func wordsOfHides(hides int, may map[int][]trial) []api.HideWord {
	var words []api.HideWord
	for hide := range hides {
		switch _, is := may[hide]; {
		case !is:
			words = append(words, api.HideNever)
		case len(may) == 1:
			words = append(words, api.HideSurely)
		default:
			words = append(words, api.HideMay)
		}
	}
	return words
}

func wordsOfMeasures(measures int, fits []trial) []api.HideWord {
	var words []api.HideWord
	for measure := range measures {
		var marks []bool
		for _, t := range fits {
			marks = append(marks, slices.Contains(t.changes, measure))
		}
		switch count(marks...) {
		case 0:
			words = append(words, api.HideNever)
		case len(fits):
			words = append(words, api.HideSurely)
		default:
			words = append(words, api.HideMay)
		}
	}
	return words
}

func spanOf(numbers []int) api.Span {
	return api.Span{Low: slices.Min(numbers), High: slices.Max(numbers)}
}

func spansOfRates(fits []trial) [2]api.Span {
	var spans [2]api.Span
	for n, read := range readers() {
		var all []int
		for _, t := range fits {
			all = append(all, read(t.rates))
		}
		spans[n] = spanOf(all)
	}
	return spans
}

// expected returns the least and the greatest reading with which a measure is not changed, with some rates.
func expected(r api.HideRegister, hide, measure int, fits []trial) api.Span {
	var all []int
	for _, t := range fits {
		span := unchanged(r, hide, measure, t.of(r.Kinds[measure]))
		all = append(all, span.Low, span.High)
	}
	return spanOf(all)
}

// question is a measure that may be taken; so many hides may be the one after it, at most.
type question struct{ measure, left int }

func (q question) compare(other question) int { return q.left - other.left }

// questions returns one for each measure that is not taken, in order.
func (f found) questions(may map[int][]trial) []question {
	var list []question
	for measure := range len(f.Kinds) {
		if f.find[measure] == notTaken {
			list = append(list, question{measure, f.left(measure, may)})
		}
	}
	return list
}

// left returns how many hides may be the one after a measure is taken, at most.
func (f found) left(measure int, may map[int][]trial) int {
	var hides [api.HideRead + 1]int
	for hide := range len(f.Hides) {
		for reading, can := range f.readings(hide, measure, may[hide]) {
			hides[reading] += count(can)
		}
	}
	return slices.Max(hides[:])
}

// readings tells of each reading of a measure that is not taken whether a hide may be the one with it.
func (f found) readings(hide, measure int, fits []trial) [api.HideRead + 1]bool {
	var can [api.HideRead + 1]bool
	for _, t := range fits {
		span := api.Span{Low: 0, High: api.HideRead}
		if len(t.changes) == f.Mends {
			span = unchanged(f.HideRegister, hide, measure, t.of(f.Kinds[measure]))
		}
		for reading := span.Low; reading <= span.High; reading++ {
			can[reading] = true
		}
	}
	return can
}

// drying is how near to a thousand both rates must come, and by how much they come nearer each day.
type drying struct{ near, step int }

// days returns how many there are until both rates are near.
func (d drying) days(x rates) int {
	days := 0
	for _, read := range readers() {
		off := max(read(x)-thousand, thousand-read(x))
		days = max(days, (off-d.near+d.step-1)/d.step)
	}
	return days
}

func (d drying) span(fits []trial) api.Span {
	var all []int
	for _, t := range fits {
		all = append(all, d.days(t.rates))
	}
	return spanOf(all)
}
