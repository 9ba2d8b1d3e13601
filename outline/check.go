package outline

import (
	"strings"

	"kelir/api"
)

func argument(good bool) api.Errno {
	if good {
		return api.OK
	}
	return api.ErrArg
}

func within(n, low, high int) bool { return low <= n && n <= high }

func goodStage(s api.OutlineStage) bool {
	return within(s.Wide, 1, api.OutlineCloth) &&
		within(s.High, 1, api.OutlineCloth) &&
		within(s.Far, 2, api.OutlineFar) &&
		within(s.Flame, 0, api.OutlineFlame) &&
		within(s.X, 0, s.Wide) &&
		within(s.Y, 0, s.High)
}

func goodFigure(f api.OutlineFigure) bool {
	if !within(len(f.Rows), 1, api.OutlineSize) {
		return false
	}
	if !within(len(f.Rows[0]), 1, api.OutlineSize) {
		return false
	}
	some := false
	for _, row := range f.Rows {
		if len(row) != len(f.Rows[0]) || !only(row, hide, pierced) {
			return false
		}
		some = some || count(row, hide) > 0
	}
	return some
}

func goodPlace(s api.OutlineStage, p api.OutlinePlace) bool {
	return within(p.Near, 0, s.Far-1) && goodAway(p.X) && goodAway(p.Y)
}

func goodAway(n int) bool { return within(n, -api.OutlineAway, api.OutlineAway) }

func goodCompany(company []api.OutlineFigure) bool {
	if !within(len(company), 1, api.OutlineFigures) {
		return false
	}
	for _, f := range company {
		if !goodFigure(f) {
			return false
		}
	}
	return true
}

// goodReach reports whether a stage, a company and a reach are as defined.
func goodReach(s api.OutlineStage, company []api.OutlineFigure, r api.OutlineReach) bool {
	return goodStage(s) && goodCompany(company) &&
		within(r.Near.Low, 0, s.Far-1) && within(r.Near.High, 0, s.Far-1) && goodSpan(r.Near) &&
		goodAway(r.X.Low) && goodAway(r.X.High) && goodSpan(r.X) &&
		goodAway(r.Y)
}

// goodSpan expects bounds so small that their difference is one of the integers.
func goodSpan(s api.Span) bool { return within(s.High-s.Low+1, 1, api.OutlineSpan) }

func goodSight(s api.OutlineStage, sight []string) bool {
	if len(sight) != s.High {
		return false
	}
	for _, row := range sight {
		if len(row) != s.Wide || !only(row, dark, grey, light, unseen) {
			return false
		}
	}
	return true
}

func goodCells(s api.OutlineStage, cells []int) bool {
	if len(cells) > api.OutlineCells {
		return false
	}
	last := -1
	for _, cell := range cells {
		if !within(cell, last+1, s.Wide*s.High-1) {
			return false
		}
		last = cell
	}
	return true
}

func goodBook(b api.OutlineBook) bool { return goodStage(b.Stage) && goodCompany(b.Figures) }

func only(text string, allowed ...byte) bool {
	for _, c := range text {
		if !strings.ContainsRune(string(allowed), c) {
			return false
		}
	}
	return true
}
