package outline_test

import (
	"fmt"
	"reflect"
	"slices"
	"strings"
	"testing"

	"kelir/api"
	"kelir/outline"
)

// With a greater Flame no grey cell becomes dark or light.
func TestGreaterFlame(t *testing.T) {
	g := random(61)
	for range 300 {
		s, f := randomStage(g, 10), randomFigure(g, 5)
		p := randomPlace(g, s)
		var last string
		for flame := range api.OutlineFlame + 1 {
			s.Flame = flame
			rows, e := outline.Shadow(s, f, p)
			if e != api.OK {
				t.Fatal(e)
			}
			now := strings.Join(rows, "")
			for i := range last {
				if last[i] == '+' && now[i] != '+' {
					t.Fatal(s, f, p, i)
				}
			}
			last = now
		}
	}
}

// A cell more that is seen makes no figure possible that was not.
func TestCellMore(t *testing.T) {
	g := random(62)
	for range 300 {
		s, list := randomStage(g, 6), randomCompany(g)
		r, sight := randomReach(g, s), randomSight(g, s)
		cell := g.IntN(s.Wide * s.High)
		if sight[cell/s.Wide][cell%s.Wide] != '?' {
			continue
		}
		before, _ := outline.Reads(s, list, r, sight)
		for _, c := range []byte("#.+") {
			after, e := outline.Reads(s, list, r, put(s, sight, cell, c))
			if e != api.OK {
				t.Fatal(e)
			}
			for _, one := range after {
				if !slices.Contains(before, one) {
					t.Fatal(s, list, r, sight, cell, one)
				}
			}
		}
	}
}

// A figure more in a company makes no other one be told at more distances.
func TestFigureMore(t *testing.T) {
	g := random(63)
	for range 300 {
		s, list := randomStage(g, 8), randomCompany(g)
		r := randomReach(g, s)
		more := append(slices.Clone(list), randomFigure(g, 3))
		for figure := range list {
			before, _ := outline.Told(s, list, r, figure)
			after, e := outline.Told(s, more, r, figure)
			if e != api.OK {
				t.Fatal(e)
			}
			for _, near := range after {
				if !slices.Contains(before, near) {
					t.Fatal(s, more, r, figure, before, after)
				}
			}
		}
	}
}

// Each figure is told at all distances, or two that can be mistaken are named (P0.1).
func TestToldOrNamed(t *testing.T) {
	g := random(64)
	for range 300 {
		s, list := randomStage(g, 8), randomCompany(g)
		s.Flame = g.IntN(2)
		r := randomReach(g, s)
		all := true
		for figure := range list {
			y, _ := outline.Told(s, list, r, figure)
			all = all && len(y) == r.Near.High-r.Near.Low+1
		}
		_, _, e := outline.Mistaken(s, list, r)
		if all != (e == api.ErrNone) || !all != (e == api.OK) {
			t.Fatal(s, list, r, all, e)
		}
	}
}

// No argument is changed, results share no memory, and two calls have equal results (R4, R8).
func TestMemory(t *testing.T) {
	s, r := stageT(), reachR()
	list, places := company(figureF(), figureH()), []api.OutlinePlace{at(0, 3, 3), at(1, 3, 3)}
	sight, cells := blank(s), []int{0, 27, 36}
	for i, call := range []func() any{
		func() any { y, _ := outline.Shadow(s, list[1], places[1]); return y },
		func() any { y, _ := outline.Joined(s, list, places); return y },
		func() any { y, _ := outline.Reads(s, list, r, sight); return y },
		func() any { y, _ := outline.Who(s, list, r, sight); return y },
		func() any { y, _ := outline.Told(s, list, r, 1); return y },
		func() any { y, _ := outline.Plan(stageS(), list, r, cells); return y },
		func() any {
			y, _ := outline.Read(sealed("stage 8 8 8 1 4 4", "figure ## ##", "figure ## #."))
			return y.Figures
		},
		func() any {
			y, _ := outline.Read(sealed("stage 8 8 8 1 4 4", "figure ## #."))
			return y.Figures[0].Rows
		},
	} {
		one, other := call(), call()
		before := fmt.Sprint(other)
		if fmt.Sprint(one) != before || reflect.ValueOf(one).Len() == 0 {
			t.Error(i, one, other)
		}
		for n := range reflect.ValueOf(one).Len() {
			reflect.ValueOf(one).Index(n).SetZero()
		}
		if fmt.Sprint(other) != before || fmt.Sprint(call()) != before {
			t.Error(i, "results share memory", other)
		}
	}
	y, _ := outline.Read(sealed("stage 8 8 8 1 4 4", "figure ## ##", "figure ## #."))
	_ = append(y.Figures[0].Rows[:1], "more", "and more")
	if !slices.Equal(y.Figures[1].Rows, []string{"##", "#."}) {
		t.Error("figures share memory", y)
	}
	if !reflect.DeepEqual(list, company(figureF(), figureH())) || !slices.Equal(places, []api.OutlinePlace{at(0, 3, 3), at(1, 3, 3)}) || !slices.Equal(sight, blank(s)) || !slices.Equal(cells, []int{0, 27, 36}) {
		t.Error("an argument was changed")
	}
}

// The longest searches end.
func TestGreatest(t *testing.T) {
	s := api.OutlineStage{Wide: 16, High: 16, Far: 40, Flame: 3, X: 16, Y: 16}
	list := slices.Repeat(company(fig(slices.Repeat([]string{"######"}, 6)...)), 6)
	r := api.OutlineReach{Near: span(0, 5), X: span(3, 8), Y: 5}
	if y, e := outline.Reads(s, list, r, blank(s)); e != api.OK || len(y) != 216 {
		t.Error(len(y), e)
	}
	if cell, most, e := outline.Next(s, list, r, blank(s)); e != api.OK || cell != 0 || most != 6 {
		t.Error(cell, most, e)
	}
	if one, other, e := outline.Mistaken(s, list, r); e != api.OK || one != 0 || other != 1 {
		t.Error(one, other, e)
	}
	if y, e := outline.Told(s, list, r, 5); e != api.OK || len(y) > 0 {
		t.Error(y, e)
	}
	if y, e := outline.Plan(s, list, r, []int{1, 2, 3, 4, 5, 6, 7, 255}); e != api.ErrNone || len(y) > 0 {
		t.Error(y, e)
	}
}
