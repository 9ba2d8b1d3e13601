// Package outline is layer 1: see shared/doc/01-outline.md.
package outline

import "kelir/api"

// Check returns the error of a stage.
func Check(s api.OutlineStage) api.Errno { return argument(goodStage(s)) }

// CheckFigure returns the error of a figure.
func CheckFigure(f api.OutlineFigure) api.Errno { return argument(goodFigure(f)) }

// Shadow returns a shadow.
func Shadow(s api.OutlineStage, f api.OutlineFigure, p api.OutlinePlace) ([]string, api.Errno) {
	v := view{s, f, p}
	if !v.good() {
		return nil, api.ErrArg
	}
	return cut(v.shadow(), s.Wide), api.OK
}

// Counts returns how many cells are dark, and grey.
func Counts(s api.OutlineStage, f api.OutlineFigure, p api.OutlinePlace) (int, int, api.Errno) {
	v := view{s, f, p}
	if !v.good() {
		return 0, 0, api.ErrArg
	}
	shadow := v.shadow()
	return count(shadow, dark), count(shadow, grey), api.OK
}

// Joined returns the joined shadow of figures.
func Joined(s api.OutlineStage, figures []api.OutlineFigure, places []api.OutlinePlace) ([]string, api.Errno) {
	if !goodStage(s) || len(figures) > api.OutlineFigures || len(places) != len(figures) {
		return nil, api.ErrArg
	}
	for n, f := range figures {
		if !goodFigure(f) || !goodPlace(s, places[n]) {
			return nil, api.ErrArg
		}
	}
	all := emptyCloth(s)
	for n, f := range figures {
		all = join(all, view{s, f, places[n]}.shadow())
	}
	return cut(all, s.Wide), api.OK
}

// Meets returns whether two shadows meet.
func Meets(s api.OutlineStage, f api.OutlineFigure, p api.OutlinePlace, g api.OutlineFigure, q api.OutlinePlace) (api.OutlineWord, api.Errno) {
	one, other := view{s, f, p}, view{s, g, q}
	if !one.good() || !other.good() {
		return 0, api.ErrArg
	}
	return meet(one.shadow(), other.shadow()), api.OK
}

// Fits reports whether a shadow lies on the cloth.
func Fits(s api.OutlineStage, f api.OutlineFigure, p api.OutlinePlace) (bool, api.Errno) {
	v := view{s, f, p}
	if !v.good() {
		return false, api.ErrArg
	}
	return v.fits(), api.OK
}

// Most returns the greatest Near at which a figure fits.
func Most(s api.OutlineStage, f api.OutlineFigure, x, y int) (int, api.Errno) {
	if !(view{s, f, api.OutlinePlace{X: x, Y: y}}).good() {
		return 0, api.ErrArg
	}
	for near := s.Far - 1; near >= 0; near-- {
		if (view{s, f, api.OutlinePlace{Near: near, X: x, Y: y}}).fits() {
			return near, api.OK
		}
	}
	return 0, api.ErrNone
}

// Fades returns the least Near, whether the figure fits there or not, at which no cell is dark.
func Fades(s api.OutlineStage, f api.OutlineFigure, x, y int) (int, api.Errno) {
	if !(view{s, f, api.OutlinePlace{X: x, Y: y}}).good() {
		return 0, api.ErrArg
	}
	for near := range s.Far {
		shadow := view{s, f, api.OutlinePlace{Near: near, X: x, Y: y}}.shadow()
		if count(shadow, dark) == 0 {
			return near, api.OK
		}
	}
	return 0, api.ErrNone
}

// Reads returns all readings that agree with a sight.
func Reads(s api.OutlineStage, company []api.OutlineFigure, r api.OutlineReach, sight []string) ([]api.OutlineReading, api.Errno) {
	if !goodReach(s, company, r) || !goodSight(s, sight) {
		return nil, api.ErrArg
	}
	var list []api.OutlineReading
	for _, one := range seen(shades(s, company, r), flat(sight)) {
		list = append(list, one.OutlineReading)
	}
	return list, api.OK
}

// Who returns which figures may be seen.
func Who(s api.OutlineStage, company []api.OutlineFigure, r api.OutlineReach, sight []string) ([]api.OutlineWord, api.Errno) {
	if !goodReach(s, company, r) || !goodSight(s, sight) {
		return nil, api.ErrArg
	}
	may := figures(seen(shades(s, company, r), flat(sight)))
	if len(may) == 0 {
		return nil, api.ErrRule
	}
	return words(may, len(company)), api.OK
}

// Next returns the cell that should be looked at next, and how many figures may be seen then at most.
func Next(s api.OutlineStage, company []api.OutlineFigure, r api.OutlineReach, sight []string) (int, int, api.Errno) {
	if !goodReach(s, company, r) || !goodSight(s, sight) {
		return 0, 0, api.ErrArg
	}
	left := seen(shades(s, company, r), flat(sight))
	if len(left) == 0 {
		return 0, 0, api.ErrRule
	}
	cells := unseenCells(flat(sight))
	if len(cells) == 0 {
		return 0, 0, api.ErrNone
	}
	cell, most := best(cells, func(cell int) int { return mostLeft(left, cell) })
	return cell, most, api.OK
}

// Mistaken returns two figures that can be mistaken for each other.
func Mistaken(s api.OutlineStage, company []api.OutlineFigure, r api.OutlineReach) (int, int, api.Errno) {
	if !goodReach(s, company, r) {
		return 0, 0, api.ErrArg
	}
	return mistaken(shades(s, company, r), len(company))
}

// Told returns the Nears at which a figure is told from all others.
func Told(s api.OutlineStage, company []api.OutlineFigure, r api.OutlineReach, figure int) ([]int, api.Errno) {
	if !goodReach(s, company, r) || !within(figure, 0, len(company)-1) {
		return nil, api.ErrArg
	}
	return told(shades(s, company, r), r.Near, figure), api.OK
}

// Enough reports whether cells tell a company.
func Enough(s api.OutlineStage, company []api.OutlineFigure, r api.OutlineReach, cells []int) (bool, api.Errno) {
	if !goodReach(s, company, r) || !goodCells(s, cells) {
		return false, api.ErrArg
	}
	return tell(differences(shades(s, company, r), cells), everyCell), api.OK
}

// Plan returns the fewest cells that tell a company.
func Plan(s api.OutlineStage, company []api.OutlineFigure, r api.OutlineReach, cells []int) ([]int, api.Errno) {
	if !goodReach(s, company, r) || !goodCells(s, cells) {
		return nil, api.ErrArg
	}
	list := differences(shades(s, company, r), cells)
	if !tell(list, everyCell) {
		return nil, api.ErrNone
	}
	return fewest(list, cells), api.OK
}

// Print returns the text of a book.
func Print(b api.OutlineBook) (string, api.Errno) {
	if !goodBook(b) {
		return "", api.ErrArg
	}
	return write(b), api.OK
}

// Read returns the book of a text.
func Read(text string) (api.OutlineBook, api.Errno) {
	if len(text) > api.OutlineText {
		return api.OutlineBook{}, api.ErrLong
	}
	b, e := parse(text)
	if e != api.OK {
		return api.OutlineBook{}, e
	}
	if !goodBook(b) {
		return api.OutlineBook{}, api.ErrArg
	}
	return b, api.OK
}
