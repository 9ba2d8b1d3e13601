package hide

import (
	"slices"

	"kelir/api"
)

func argument(good bool) api.Errno {
	if good {
		return api.OK
	}
	return api.ErrArg
}

func within(n, low, high int) bool { return low <= n && n <= high }

func goodRegister(r api.HideRegister) bool {
	return goodKinds(r.Kinds) && goodHides(r) && goodSpan(r.Along) && goodSpan(r.Across) && within(r.Off, 1, api.HideOff) && within(r.Mends, 0, api.HideMends)
}

func goodKinds(kinds []api.HideKind) bool {
	bad := func(kind api.HideKind) bool { return kind != api.HideAlong && kind != api.HideAcross }
	return within(len(kinds), 1, api.HideMeasures) && !slices.ContainsFunc(kinds, bad)
}

func goodHides(r api.HideRegister) bool {
	bad := func(size int) bool { return !within(size, 1, api.HideSize) }
	for _, sizes := range r.Hides {
		if len(sizes) != len(r.Kinds) || slices.ContainsFunc(sizes, bad) {
			return false
		}
	}
	return within(len(r.Hides), 1, api.HideHides)
}

func goodSpan(s api.Span) bool {
	return within(s.Low, api.HideLow, api.HideHigh) && within(s.High, s.Low, min(s.Low+api.HideWide, api.HideHigh))
}

func hasHide(r api.HideRegister, hide int) bool { return within(hide, 0, len(r.Hides)-1) }

func hasMeasure(r api.HideRegister, measure int) bool { return within(measure, 0, len(r.Kinds)-1) }

func goodRates(r api.HideRegister, x api.HideRates) bool {
	return within(x.Along, r.Along.Low, r.Along.High) && within(x.Across, r.Across.Low, r.Across.High)
}

func goodFind(r api.HideRegister, find []int) bool {
	bad := func(reading int) bool { return reading != notTaken && !within(reading, 0, api.HideRead) }
	return len(find) == len(r.Kinds) && !slices.ContainsFunc(find, bad)
}

// goodMeasures reports whether a list has measures of a register in increasing order.
func goodMeasures(r api.HideRegister, measures []int) bool {
	before := -1
	for _, measure := range measures {
		if measure <= before || !hasMeasure(r, measure) {
			return false
		}
		before = measure
	}
	return true
}

func goodDays(near, step int) bool {
	return within(near, 0, api.HideNear) && within(step, 1, api.HideStep)
}
