package hide

import (
	"cmp"
	"iter"
	"slices"

	"kelir/api"
)

const (
	// notTaken is what a find has for a measure that is not taken.
	notTaken = -1
	// thousand is the rate of a hide that is not warped.
	thousand = 1000
)

// rates is by how much a hide is warped.
type rates api.HideRates

func (x rates) along() int { return x.Along }

func (x rates) across() int { return x.Across }

// readers returns what reads both rates, in the order of kinds.
func readers() [2]func(rates) int { return [...]func(rates) int{rates.along, rates.across} }

// of returns the rate of measures of a kind.
func (x rates) of(kind api.HideKind) int { return readers()[kind-api.HideAlong](x) }

// pairs goes through all pairs of a number of one span and a number of another one, in order.
func pairs(one, other api.Span) iter.Seq2[int, int] {
	return func(yield func(int, int) bool) {
		for n := one.Low; n <= one.High; n++ {
			for m := other.Low; m <= other.High; m++ {
				if !yield(n, m) {
					return
				}
			}
		}
	}
}

// unchanged returns the readings with which a measure of a hide is not changed, with the rate of its kind. There always are some, and none is more than api.HideRead.
func unchanged(r api.HideRegister, hide, measure, rate int) api.Span {
	length := r.Hides[hide][measure] * rate
	up := (length + thousand - 1) / thousand
	return api.Span{Low: max(up-r.Off, 0), High: length/thousand + r.Off}
}

// found is a register with a find.
type found struct {
	api.HideRegister
	find []int
}

func (f found) changed(hide, measure int, x rates) bool {
	reading := f.find[measure]
	span := unchanged(f.HideRegister, hide, measure, x.of(f.Kinds[measure]))
	return reading != notTaken && !within(reading, span.Low, span.High)
}

func count(marks ...bool) int {
	many := 0
	for _, mark := range marks {
		if mark {
			many++
		}
	}
	return many
}

// tooMany is why rates are given up: more measures are changed than may be.
type tooMany struct{}

// changes returns the measures that are changed with some rates, or gives these up if there are more than so many.
func (f found) changes(hide int, x rates, most int) []int {
	var list []int
	var marks []bool
	for measure := range len(f.Kinds) {
		marks = append(marks, f.changed(hide, measure, x))
		if count(marks...) > most {
			panic(tooMany{})
		}
		if marks[measure] {
			list = append(list, measure)
		}
	}
	return list
}

// trial is rates, with the measures that are changed with them.
type trial struct {
	rates
	changes []int
}

// compare puts the fewest changes first, and of as many those of the first list.
func (t trial) compare(other trial) int {
	return cmp.Or(len(t.changes)-len(other.changes), slices.Compare(t.changes, other.changes))
}

// try returns rates with their changes, and whether there are at most so many.
func (f found) try(hide int, x rates, most int) (t trial, fits bool) {
	defer func() {
		switch given := recover().(type) {
		case nil:
		case tooMany:
			t, fits = trial{}, false
		default:
			panic(given)
		}
	}()
	return trial{x, f.changes(hide, x, most)}, true
}

// trials returns all rates with at most so many changes, in order.
func (f found) trials(hide, most int) []trial {
	var list []trial
	for along, across := range pairs(f.Along, f.Across) {
		if t, fits := f.try(hide, rates{Along: along, Across: across}, most); fits {
			list = append(list, t)
		}
	}
	return list
}

// fitting returns all rates that fit a hide, in order.
func (f found) fitting(hide int) []trial { return f.trials(hide, f.Mends) }

// best returns the first one of some things before which no other one comes, if there are any.
func best[T any](things []T, compare func(T, T) int) (T, bool) {
	var first T
	for n, thing := range things {
		if n == 0 || compare(thing, first) < 0 {
			first = thing
		}
	}
	return first, len(things) > 0
}
