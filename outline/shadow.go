package outline

import (
	"slices"
	"strings"

	"kelir/api"
)

// The characters of figures.
const (
	hide    = '#'
	pierced = '.'
)

// The characters of cloths.
const (
	dark   = '#'
	grey   = '+'
	light  = '.'
	unseen = '?'
)

// view is a stage with a figure at a place.
type view struct {
	api.OutlineStage
	figure api.OutlineFigure
	place  api.OutlinePlace
}

func (v view) good() bool {
	return goodStage(v.OutlineStage) && goodFigure(v.figure) && goodPlace(v.OutlineStage, v.place)
}

// parts is into how many parts a cell is divided, so that all edges of shadows are whole numbers of them.
func (v view) parts() int { return v.Far - v.place.Near }

// blur is how far an edge wanders with the flame, in parts of a cell.
func (v view) blur() int { return v.Flame * v.place.Near }

// across is where, with the flame on its axis, the shadow of the left edge of a column of the figure is.
func (v view) across(column int) int {
	return v.X*v.parts() + (v.place.X+column-v.X)*v.Far
}

// down is where, with the flame on its axis, the shadow of the upper edge of a row of the figure is.
func (v view) down(row int) int {
	return v.Y*v.parts() + (v.place.Y+row-v.Y)*v.Far
}

func directions() [2]func(view, int) int {
	return [2]func(view, int) int{view.across, view.down}
}

// size is how many columns and rows the figure has.
func (v view) size() [2]int { return [2]int{len(v.figure.Rows[0]), len(v.figure.Rows)} }

// cloth is how many columns and rows the cloth has.
func (v view) cloth() [2]int { return [2]int{v.Wide, v.High} }

func (v view) fits() bool {
	for n, edge := range directions() {
		low := edge(v, 0) - v.blur()
		high := edge(v, v.size()[n]) + v.blur()
		if low < 0 || high > v.cloth()[n]*v.parts() {
			return false
		}
	}
	return true
}

// strip is the columns, or rows, of the figure that a cell gets shadows of while the flame wanders.
type strip struct {
	first  int
	end    int
	inside bool // nothing beside the figure's rectangle
}

func (t strip) long() int { return t.end - t.first }

// strips returns the strips of all columns of the cloth, and of all of its rows.
func (v view) strips() [2][]strip {
	var out [2][]strip
	for n, edge := range directions() {
		for cell := range v.cloth()[n] {
			out[n] = append(out[n], v.strip(edge, v.size()[n], cell))
		}
	}
	return out
}

func (v view) strip(edge func(view, int) int, size, cell int) strip {
	low := cell*v.parts() - v.blur()
	high := (cell+1)*v.parts() + v.blur()
	t := strip{inside: edge(v, 0) <= low && high <= edge(v, size)}
	for t.first < size && edge(v, t.first+1) <= low {
		t.first++
	}
	t.end = t.first
	for t.end < size && edge(v, t.end) < high {
		t.end++
	}
	return t
}

// tone is what a cell is that gets shadows of these columns and rows.
func (v view) tone(columns, rows strip) byte {
	some := 0
	for _, row := range v.figure.Rows[rows.first:rows.end] {
		some += count(row[columns.first:columns.end], hide)
	}
	if some == 0 {
		return light
	}
	if columns.inside && rows.inside && some == columns.long()*rows.long() {
		return dark
	}
	return grey
}

// shadow returns the cells of the cloth, row by row in one string.
func (v view) shadow() string {
	strips := v.strips()
	var out []byte
	for cell := range v.Wide * v.High {
		out = append(out, v.tone(strips[0][cell%v.Wide], strips[1][cell/v.Wide]))
	}
	return string(out)
}

func emptyCloth(s api.OutlineStage) string {
	return strings.Repeat(string(rune(light)), s.Wide*s.High)
}

// cut returns the rows of a cloth that is one string.
func cut(cloth string, wide int) []string {
	var rows []string
	for ; len(cloth) > 0; cloth = cloth[wide:] {
		rows = append(rows, cloth[:wide])
	}
	return rows
}

// flat returns a cloth of rows as one string.
func flat(rows []string) string { return strings.Join(rows, "") }

// count returns how many characters of a cloth, or of a row, are one of some.
func count(cloth string, tones ...byte) int {
	n := 0
	for i := range len(cloth) {
		if slices.Contains(tones, cloth[i]) {
			n++
		}
	}
	return n
}

func join(one, other string) string {
	out := []byte(one)
	for cell := range out {
		if other[cell] == dark || other[cell] == grey && out[cell] == light {
			out[cell] = other[cell]
		}
	}
	return string(out)
}

func meet(one, other string) api.OutlineWord {
	word := api.OutlineNever
	for cell := range len(one) {
		if one[cell] == dark && other[cell] == dark {
			return api.OutlineSurely
		}
		if one[cell] != light && other[cell] != light {
			word = api.OutlineMay
		}
	}
	return word
}

// clash reports whether one cell is dark and the other one light.
func clash(one, other byte) bool {
	return one == dark && other == light || one == light && other == dark
}

func agree(one, other string) bool {
	for cell := range len(one) {
		if clash(one[cell], other[cell]) {
			return false
		}
	}
	return true
}
