package outline_test

import (
	"math"
	"math/rand/v2"
	"slices"
	"strings"

	"kelir/api"
)

// stageS is the stage s of the chapter.
func stageS() api.OutlineStage {
	return api.OutlineStage{Wide: 8, High: 8, Far: 8, X: 4, Y: 4}
}

// stageT is the stage t of the chapter.
func stageT() api.OutlineStage {
	s := stageS()
	s.Flame = 1
	return s
}

func fig(rows ...string) api.OutlineFigure { return api.OutlineFigure{Rows: rows} }

func figureF() api.OutlineFigure { return fig("##", "##") }

func figureH() api.OutlineFigure { return fig("##", "#.") }

func company(list ...api.OutlineFigure) []api.OutlineFigure { return list }

func at(near, x, y int) api.OutlinePlace { return api.OutlinePlace{Near: near, X: x, Y: y} }

func span(low, high int) api.Span { return api.Span{Low: low, High: high} }

// reachR is the reach r of the chapter.
func reachR() api.OutlineReach {
	return api.OutlineReach{Near: span(0, 1), X: span(3, 3), Y: 3}
}

func blank(s api.OutlineStage) []string {
	return slices.Repeat([]string{strings.Repeat("?", s.Wide)}, s.High)
}

// put returns a sight in which one cell has another character.
func put(s api.OutlineStage, sight []string, cell int, c byte) []string {
	out := slices.Clone(sight)
	row := []byte(out[cell/s.Wide])
	row[cell%s.Wide] = c
	out[cell/s.Wide] = string(row)
	return out
}

func badStages() []api.OutlineStage {
	var out []api.OutlineStage
	for _, change := range []func(*api.OutlineStage){
		func(s *api.OutlineStage) { s.Wide = 0 },
		func(s *api.OutlineStage) { s.Wide = -1 },
		func(s *api.OutlineStage) { s.Wide = 17 },
		func(s *api.OutlineStage) { s.Wide = math.MaxInt },
		func(s *api.OutlineStage) { s.High = 0 },
		func(s *api.OutlineStage) { s.High = 17 },
		func(s *api.OutlineStage) { s.High = math.MinInt },
		func(s *api.OutlineStage) { s.Far = 1 },
		func(s *api.OutlineStage) { s.Far = 41 },
		func(s *api.OutlineStage) { s.Far = math.MinInt },
		func(s *api.OutlineStage) { s.Flame = -1 },
		func(s *api.OutlineStage) { s.Flame = 4 },
		func(s *api.OutlineStage) { s.X = -1 },
		func(s *api.OutlineStage) { s.X = 9 },
		func(s *api.OutlineStage) { s.Y = -1 },
		func(s *api.OutlineStage) { s.Y = 9 },
		func(s *api.OutlineStage) { *s = api.OutlineStage{} },
	} {
		s := stageS()
		change(&s)
		out = append(out, s)
	}
	return out
}

func badFigures() []api.OutlineFigure {
	return []api.OutlineFigure{
		{}, fig(), fig(""), fig("", ""), fig("."), fig("..", ".."), fig("#x"), fig("# "), fig("#\n"), fig("#?"), fig("#+"),
		fig("##", "#"), fig("#", "##"), fig("#", ""), fig("#######"), fig(slices.Repeat([]string{"#"}, 7)...),
		fig("#\xff"), fig("#é"), fig("é#", "###"),
	}
}

// badPlaces are places that the stages s and t do not have.
func badPlaces() []api.OutlinePlace {
	return []api.OutlinePlace{
		at(-1, 3, 3), at(8, 3, 3), at(math.MaxInt, 3, 3), at(math.MinInt, 3, 3),
		at(0, 21, 3), at(0, -21, 3), at(0, math.MinInt, 3), at(0, 3, 21), at(0, 3, -21), at(0, 3, math.MaxInt),
	}
}

// badReaches are reaches that the stages s and t do not have.
func badReaches() []api.OutlineReach {
	reach := func(near, x api.Span, y int) api.OutlineReach {
		return api.OutlineReach{Near: near, X: x, Y: y}
	}
	one := span(3, 3)
	return []api.OutlineReach{
		reach(span(0, 6), one, 3), reach(span(-1, 0), one, 3), reach(span(7, 8), one, 3), reach(span(1, 0), one, 3),
		reach(span(math.MinInt, math.MaxInt), one, 3), reach(span(0, math.MaxInt), one, 3),
		reach(one, span(-3, 3), 3), reach(one, span(-21, -20), 3), reach(one, span(20, 21), 3), reach(one, span(4, 3), 3),
		reach(one, span(math.MinInt, math.MaxInt), 3), reach(one, span(math.MaxInt, math.MinInt), 3),
		reach(one, one, 21), reach(one, one, -21), reach(one, one, math.MinInt),
	}
}

func badCompanies() [][]api.OutlineFigure {
	return [][]api.OutlineFigure{
		nil, {}, {fig()}, {figureF(), fig("..")}, slices.Repeat([]api.OutlineFigure{figureF()}, 7),
	}
}

// badSights are sights that the stages s and t do not have.
func badSights() [][]string {
	s := stageS()
	return [][]string{
		nil, blank(s)[1:], append(blank(s), "????????"), append(blank(s)[1:], "???????"), append(blank(s)[1:], "?????????"),
		put(s, blank(s), 0, ' '), put(s, blank(s), 63, 'x'), put(s, blank(s), 9, 0xff), append(blank(s)[1:], "??????é"),
	}
}

// badCells are lists of cells that the stages s and t do not have.
func badCells() [][]int {
	return [][]int{
		{-1}, {64}, {36, 36}, {36, 27}, {0, 1, 2, 3, 4, 5, 6, 7, 8}, {0, math.MaxInt}, {math.MinInt},
	}
}

func random(seed uint64) *rand.Rand { return rand.New(rand.NewPCG(seed, 1)) }

func randomStage(g *rand.Rand, most int) api.OutlineStage {
	s := api.OutlineStage{Wide: 1 + g.IntN(most), High: 1 + g.IntN(most), Far: 2 + g.IntN(9), Flame: g.IntN(4)}
	if g.IntN(4) == 0 {
		s.Far = 2 + g.IntN(39)
	}
	s.X, s.Y = g.IntN(s.Wide+1), g.IntN(s.High+1)
	return s
}

func randomFigure(g *rand.Rand, most int) api.OutlineFigure {
	wide, high, some := 1+g.IntN(most), 1+g.IntN(most), 1+g.IntN(4)
	cells := make([]byte, wide*high)
	for i := range cells {
		cells[i] = '#'
		if g.IntN(5) >= some {
			cells[i] = '.'
		}
	}
	cells[g.IntN(len(cells))] = '#'
	var f api.OutlineFigure
	for i := 0; i < len(cells); i += wide {
		f.Rows = append(f.Rows, string(cells[i:i+wide]))
	}
	return f
}

func randomPlace(g *rand.Rand, s api.OutlineStage) api.OutlinePlace {
	p := at(g.IntN(s.Far), g.IntN(s.Wide+4)-3, g.IntN(s.High+4)-3)
	if g.IntN(2) == 0 { // where shadows are sharp
		p.Near = g.IntN(min(s.Far, 3))
	}
	return p
}

func randomReach(g *rand.Rand, s api.OutlineStage) api.OutlineReach {
	p := randomPlace(g, s)
	return api.OutlineReach{
		Near: span(p.Near, min(s.Far-1, p.Near+g.IntN(3))),
		X:    span(p.X, p.X+g.IntN(3)),
		Y:    p.Y,
	}
}

func randomCompany(g *rand.Rand) []api.OutlineFigure {
	var list []api.OutlineFigure
	for range 1 + g.IntN(4) {
		list = append(list, randomFigure(g, 3))
	}
	return list
}

func randomSight(g *rand.Rand, s api.OutlineStage) []string {
	sight := blank(s)
	for range g.IntN(4) {
		sight = put(s, sight, g.IntN(s.Wide*s.High), "#.+"[g.IntN(3)])
	}
	return sight
}

// hide reports whether a point of the figure's plane, given in parts of a cell, is within the rectangle of a #, its edges among it if closed.
func hide(f api.OutlineFigure, p api.OutlinePlace, x, y, parts int, closed bool) bool {
	edge := 0
	if closed {
		edge = 1
	}
	for m, row := range f.Rows {
		for k := range row {
			left, upper := (p.X+k)*parts, (p.Y+m)*parts
			if row[k] == '#' && x > left-edge && x < left+parts+edge && y > upper-edge && y < upper+parts+edge {
				return true
			}
		}
	}
	return false
}

// slowShadow looks at the figure's plane in squares so small that no edge goes through one: a point of the cloth at u is in the shadow of the point at X + ((u - X) D + a Near) / Far.
func slowShadow(s api.OutlineStage, f api.OutlineFigure, p api.OutlinePlace) []string {
	d, off := s.Far-p.Near, s.Flame*p.Near
	var out []string
	for m := range s.High {
		var row []byte
		for k := range s.Wide {
			left, right := s.X*s.Far+(k-s.X)*d-off, s.X*s.Far+(k+1-s.X)*d+off
			upper, lower := s.Y*s.Far+(m-s.Y)*d-off, s.Y*s.Far+(m+1-s.Y)*d+off
			some, all := false, true
			for x := left; x < right; x++ {
				for y := upper; y < lower; y++ {
					is := hide(f, p, 2*x+1, 2*y+1, 2*s.Far, false)
					some, all = some || is, all && is
				}
			}
			row = append(row, tone(some, all))
		}
		out = append(out, string(row))
	}
	return out
}

func tone(some, all bool) byte {
	switch {
	case all:
		return '#'
	case some:
		return '+'
	default:
		return '.'
	}
}

// agree reports whether two cloths agree.
func agree(a, b []string) bool {
	one, other := strings.Join(a, ""), strings.Join(b, "")
	for i := range one {
		if two := string([]byte{one[i], other[i]}); two == "#." || two == ".#" {
			return false
		}
	}
	return true
}
