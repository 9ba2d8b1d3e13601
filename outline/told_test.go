package outline_test

import (
	"math"
	"slices"
	"testing"

	"kelir/api"
	"kelir/outline"
)

func TestToldOfTheChapter(t *testing.T) {
	f, h := figureF(), figureH()
	wide := api.OutlineReach{Near: span(0, 0), X: span(3, 4), Y: 3}
	for i, x := range []struct {
		s          api.OutlineStage
		list       []api.OutlineFigure
		r          api.OutlineReach
		one, other int
		e          api.Errno
		told       [][]int
	}{
		{stageS(), company(f, h), reachR(), 0, 0, api.ErrNone, [][]int{{0, 1}, {0, 1}}},
		{stageT(), company(f, h), reachR(), 0, 1, api.OK, [][]int{nil, {0}}},
		{stageS(), company(f), reachR(), 0, 0, api.ErrNone, [][]int{{0, 1}}},
		// the first pair is 0 2, not 1 3
		{stageS(), company(f, h, f, h), reachR(), 0, 2, api.OK, [][]int{nil, nil, nil, nil}},
		{stageS(), company(h, f, f), reachR(), 1, 2, api.OK, [][]int{{0, 1}, nil, nil}},
		// they are mistaken at two places, and told at each one
		{stageS(), company(fig(".#"), fig("#")), wide, 0, 1, api.OK, [][]int{nil, nil}},
		{stageS(), company(fig("##"), fig("#")), wide, 0, 0, api.ErrNone, [][]int{{0}, {0}}},
		// beside the cloth all of them are the same
		{stageS(), company(f, h), api.OutlineReach{Near: span(0, 0), X: span(20, 20)}, 0, 1, api.OK, [][]int{nil, nil}},
	} {
		if one, other, e := outline.Mistaken(x.s, x.list, x.r); e != x.e || one != x.one || other != x.other {
			t.Error(i, one, other, e)
		}
		for figure, want := range x.told {
			if y, e := outline.Told(x.s, x.list, x.r, figure); e != api.OK || !slices.Equal(y, want) {
				t.Error(i, figure, y, e)
			}
		}
	}
}

// The first pair is found even if an earlier reading of its first figure agrees with one of a later figure.
func TestMistakenTakesTheFirstPair(t *testing.T) {
	r := api.OutlineReach{Near: span(0, 0), X: span(3, 4), Y: 3}
	// the first figure at 3 is the third one at 4, and at 4 the second one at 3
	list := company(fig(".#."), fig("..#"), fig("#.."))
	if one, other, e := outline.Mistaken(stageS(), list, r); e != api.OK || one != 0 || other != 1 {
		t.Error(one, other, e)
	}
}

// slowShades returns all shadows of a company, and of which readings they are.
func slowShades(s api.OutlineStage, list []api.OutlineFigure, r api.OutlineReach) ([]api.OutlineReading, [][]string) {
	all := slowReads(s, list, r, blank(s))
	var out [][]string
	for _, one := range all {
		y, _ := outline.Shadow(s, list[one.Figure], one.Place)
		out = append(out, y)
	}
	return all, out
}

func TestToldFollows(t *testing.T) {
	g := random(41)
	var pairs, none, some int
	for range 300 {
		s, list := randomStage(g, 8), randomCompany(g)
		s.Flame = g.IntN(2)
		r := randomReach(g, s)
		all, shadows := slowShades(s, list, r)
		pair := [2]int{math.MaxInt, math.MaxInt}
		lost := map[[2]int]bool{} // a figure at a Near
		for i, one := range all {
			for k, other := range all {
				if one.Figure != other.Figure && agree(shadows[i], shadows[k]) {
					lost[[2]int{one.Figure, one.Place.Near}] = true
					if p := [2]int{one.Figure, other.Figure}; one.Figure < other.Figure && slices.Compare(p[:], pair[:]) < 0 {
						pair = p
					}
				}
			}
		}
		one, other, e := outline.Mistaken(s, list, r)
		if len(lost) == 0 {
			if e != api.ErrNone || one != 0 || other != 0 {
				t.Fatal(one, other, e)
			}
			none++
		} else {
			if e != api.OK || [2]int{one, other} != pair {
				t.Fatal(s, list, r, one, other, e, pair)
			}
			pairs++
		}
		for figure := range list {
			var want []int
			for near := r.Near.Low; near <= r.Near.High; near++ {
				if !lost[[2]int{figure, near}] {
					want = append(want, near)
				}
			}
			if y, e := outline.Told(s, list, r, figure); e != api.OK || !slices.Equal(y, want) {
				t.Fatal(s, list, r, figure, y, e, want)
			}
			if len(lost) > 0 && len(want) > 0 {
				some++
			}
			if len(lost) == 0 && len(want) != r.Near.High-r.Near.Low+1 {
				t.Fatal("not mistaken, and not told", s, list, r, figure)
			}
		}
	}
	if pairs == 0 || none == 0 || some == 0 {
		t.Error(pairs, none, some)
	}
}

func TestEnoughOfTheChapter(t *testing.T) {
	f, h, row := figureF(), figureH(), fig("##", "..")
	for i, x := range []struct {
		s      api.OutlineStage
		list   []api.OutlineFigure
		cells  []int
		enough bool
		plan   []int
	}{
		{stageS(), company(f, h), []int{36}, true, []int{36}},
		{stageT(), company(f, h), []int{36}, false, nil},
		{stageS(), company(f, h), []int{0, 27, 36}, true, []int{36}},
		{stageS(), company(f, h), []int{0, 27}, false, nil},
		{stageS(), company(f, h), nil, false, nil},
		// nobody has to be told
		{stageS(), company(f), nil, true, nil},
		{stageS(), company(f), []int{0, 63}, true, nil},
		{stageS(), company(f, h, row), []int{27, 35, 36}, true, []int{35, 36}},
		{stageS(), company(f, h, row), []int{36}, false, nil},
		// of several shortest lists the first one
		{stageS(), company(f, row), []int{20, 35, 36}, true, []int{35}},
		{stageS(), company(f, row), []int{0, 1, 2, 3, 4, 5, 36, 63}, true, []int{36}},
	} {
		if is, e := outline.Enough(x.s, x.list, reachR(), x.cells); e != api.OK || is != x.enough {
			t.Error(i, is, e)
		}
		want := api.OK
		if !x.enough {
			want = api.ErrNone
		}
		if y, e := outline.Plan(x.s, x.list, reachR(), x.cells); e != want || !slices.Equal(y, x.plan) {
			t.Error(i, y, e)
		}
	}
}

// slowEnough reports whether some of the cells (those of the set) tell each two readings.
func slowEnough(all []api.OutlineReading, shadows [][]string, wide int, cells []int, set int) bool {
	for i, one := range all {
		for k, other := range all {
			told := one.Figure == other.Figure
			for n, cell := range cells {
				two := string([]byte{shadows[i][cell/wide][cell%wide], shadows[k][cell/wide][cell%wide]})
				told = told || set>>n&1 == 1 && (two == "#." || two == ".#")
			}
			if !told {
				return false
			}
		}
	}
	return true
}

func chosen(cells []int, set int) []int {
	var out []int
	for n, cell := range cells {
		if set>>n&1 == 1 {
			out = append(out, cell)
		}
	}
	return out
}

func TestEnoughFollows(t *testing.T) {
	g := random(42)
	lengths := map[int]int{}
	for range 400 {
		s := api.OutlineStage{Wide: 5, High: 4, Far: 8, Flame: g.IntN(2), X: 2, Y: 2}
		list := randomCompany(g)
		r := api.OutlineReach{Near: span(0, g.IntN(2)), X: span(1, 1), Y: 1}
		all, shadows := slowShades(s, list, r)
		cells := g.Perm(20)[:g.IntN(9)]
		slices.Sort(cells)
		var want []int
		enough := false
		for set := range 1 << len(cells) {
			if !slowEnough(all, shadows, s.Wide, cells, set) {
				continue
			}
			if y := chosen(cells, set); !enough || len(y) < len(want) || len(y) == len(want) && slices.Compare(y, want) < 0 {
				enough, want = true, y
			}
		}
		if is, e := outline.Enough(s, list, r, cells); e != api.OK || is != enough {
			t.Fatal(s, list, r, cells, is, e)
		}
		y, e := outline.Plan(s, list, r, cells)
		if !enough {
			if e != api.ErrNone || len(y) > 0 {
				t.Fatal(y, e)
			}
			continue
		}
		if e != api.OK || !slices.Equal(y, want) {
			t.Fatal(s, list, r, cells, y, e, want)
		}
		if is, _ := outline.Enough(s, list, r, y); !is {
			t.Fatal(s, list, r, y)
		}
		lengths[len(y)]++
	}
	if len(lengths) < 4 {
		t.Error(lengths)
	}
}

func TestToldErrors(t *testing.T) {
	check := func(s api.OutlineStage, list []api.OutlineFigure, r api.OutlineReach, figure int, cells []int) {
		if y, e := outline.Told(s, list, r, figure); e != api.ErrArg || len(y) > 0 {
			t.Error(s, list, r, figure, y, e)
		}
		if is, e := outline.Enough(s, list, r, cells); e != api.ErrArg || is {
			t.Error(s, list, r, cells, is, e)
		}
		if y, e := outline.Plan(s, list, r, cells); e != api.ErrArg || len(y) > 0 {
			t.Error(s, list, r, cells, y, e)
		}
	}
	both := func(s api.OutlineStage, list []api.OutlineFigure, r api.OutlineReach) {
		check(s, list, r, 0, []int{0})
		if one, other, e := outline.Mistaken(s, list, r); e != api.ErrArg || one != 0 || other != 0 {
			t.Error(s, list, r, one, other, e)
		}
	}
	good := company(figureF(), figureH())
	for _, s := range badStages() {
		both(s, good, reachR())
	}
	for _, list := range badCompanies() {
		both(stageS(), list, reachR())
	}
	for _, r := range badReaches() {
		both(stageS(), good, r)
	}
	for _, cells := range badCells() {
		check(stageS(), good, reachR(), 2, cells)
	}
	for _, figure := range []int{-1, 2, math.MaxInt, math.MinInt} {
		check(stageS(), good, reachR(), figure, []int{64})
	}
}
