package outline_test

import (
	"math"
	"testing"

	"kelir/api"
	"kelir/outline"
)

func TestFitsOfTheChapter(t *testing.T) {
	for i, x := range []struct {
		s    api.OutlineStage
		f    api.OutlineFigure
		p    api.OutlinePlace
		want bool
	}{
		{stageS(), figureF(), at(6, 3, 3), true},
		{stageT(), figureF(), at(6, 3, 3), false},
		{stageS(), figureF(), at(7, 3, 3), false},
		{stageT(), figureF(), at(4, 3, 3), true},
		{stageT(), figureF(), at(5, 3, 3), false},
		{stageS(), figureF(), at(0, 6, 6), true},
		{stageS(), figureF(), at(0, 0, 0), true},
		{stageS(), figureF(), at(0, 7, 3), false},
		{stageS(), figureF(), at(0, 3, 7), false},
		{stageS(), figureF(), at(0, -1, 3), false},
		{stageS(), figureF(), at(0, 3, -1), false},
		// what is pierced counts, too
		{stageS(), fig("#."), at(0, 7, 3), false},
		{stageS(), fig("#", "."), at(0, 3, 7), false},
	} {
		if is, e := outline.Fits(x.s, x.f, x.p); e != api.OK || is != x.want {
			t.Error(i, is, e)
		}
	}
}

// slowFits looks at the corners of the rectangle with the flame in the corners of its square.
func slowFits(s api.OutlineStage, f api.OutlineFigure, p api.OutlinePlace) bool {
	d := s.Far - p.Near
	for _, off := range []int{-s.Flame, s.Flame} {
		for _, n := range []int{0, 1} {
			u := s.X*d + (p.X+n*len(f.Rows[0])-s.X)*s.Far - off*p.Near
			v := s.Y*d + (p.Y+n*len(f.Rows)-s.Y)*s.Far - off*p.Near
			if u < 0 || u > s.Wide*d || v < 0 || v > s.High*d {
				return false
			}
		}
	}
	return true
}

func TestDistancesFollow(t *testing.T) {
	g := random(21)
	var never, faded, ever int
	for range 500 {
		s, f := randomStage(g, 12), randomFigure(g, 4)
		x, y := g.IntN(s.Wide+2)-1, g.IntN(s.High+2)-1
		most, fades := -1, -1
		for near := range s.Far {
			is, e := outline.Fits(s, f, at(near, x, y))
			if e != api.OK || is != slowFits(s, f, at(near, x, y)) {
				t.Fatal(s, f, near, x, y, is, e)
			}
			if is && most != near-1 {
				t.Fatal("fits farther away, not nearer", s, f, near, x, y)
			}
			if is {
				most = near
			}
			if dark, _, _ := outline.Counts(s, f, at(near, x, y)); dark == 0 && fades < 0 {
				fades = near
			}
		}
		if n, e := outline.Most(s, f, x, y); !found(n, e, most) {
			t.Fatal(s, f, x, y, n, e, most)
		}
		if n, e := outline.Fades(s, f, x, y); !found(n, e, fades) {
			t.Fatal(s, f, x, y, n, e, fades)
		}
		if most < 0 {
			never++
		}
		if fades < 0 {
			ever++
		} else if fades > 0 {
			faded++
		}
	}
	if never == 0 || ever == 0 || faded == 0 {
		t.Error(never, ever, faded)
	}
}

// found reports whether a number was returned, or ErrNone if there is none (less than 0).
func found(n int, e api.Errno, want int) bool {
	if want < 0 {
		return n == 0 && e == api.ErrNone
	}
	return n == want && e == api.OK
}

func TestMostAndFadesOfTheChapter(t *testing.T) {
	const none = -1
	for i, x := range []struct {
		s           api.OutlineStage
		f           api.OutlineFigure
		x, y        int
		most, fades int
	}{
		{stageS(), figureF(), 3, 3, 6, none},
		{stageT(), figureF(), 3, 3, 4, none},
		{stageT(), figureH(), 3, 3, 4, 1},
		// does not fit anywhere, and fades nevertheless
		{stageS(), figureF(), 7, 3, none, 1},
		{stageS(), figureF(), 20, 20, none, 0},
		{api.OutlineStage{Wide: 1, High: 1, Far: 2}, fig("#"), 0, 0, 0, none},
		// fits at the last distance before the lamp, from 1 to 3 both ways
		{api.OutlineStage{Wide: 6, High: 6, Far: 2, X: 3, Y: 3}, fig("#"), 2, 2, 1, none},
	} {
		if n, e := outline.Most(x.s, x.f, x.x, x.y); !found(n, e, x.most) {
			t.Error(i, n, e)
		}
		if n, e := outline.Fades(x.s, x.f, x.x, x.y); !found(n, e, x.fades) {
			t.Error(i, n, e)
		}
	}
}

func TestDistanceErrors(t *testing.T) {
	check := func(s api.OutlineStage, f api.OutlineFigure, x, y int) {
		if is, e := outline.Fits(s, f, at(0, x, y)); e != api.ErrArg || is {
			t.Error(s, f, x, y, is, e)
		}
		if n, e := outline.Most(s, f, x, y); e != api.ErrArg || n != 0 {
			t.Error(s, f, x, y, n, e)
		}
		if n, e := outline.Fades(s, f, x, y); e != api.ErrArg || n != 0 {
			t.Error(s, f, x, y, n, e)
		}
	}
	for _, s := range badStages() {
		check(s, figureF(), 3, 3)
	}
	for _, f := range badFigures() {
		check(stageS(), f, 3, 3)
	}
	for _, n := range []int{21, -21, math.MaxInt, math.MinInt} {
		check(stageS(), figureF(), n, 3)
		check(stageS(), figureF(), 3, n)
	}
	for _, p := range badPlaces() {
		if is, e := outline.Fits(stageS(), figureF(), p); e != api.ErrArg || is {
			t.Error(p, is, e)
		}
	}
}
