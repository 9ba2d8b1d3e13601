package outline_test

import (
	"slices"
	"strings"
	"testing"

	"kelir/api"
	"kelir/outline"
)

func TestCheck(t *testing.T) {
	for i, s := range []api.OutlineStage{
		stageS(), stageT(),
		{Wide: 1, High: 1, Far: 2},
		{Wide: 16, High: 16, Far: 40, Flame: 3, X: 16, Y: 16},
		{Wide: 1, High: 16, Far: 2, X: 1, Y: 16},
	} {
		if e := outline.Check(s); e != api.OK {
			t.Error(i, e)
		}
	}
	for i, s := range badStages() {
		if e := outline.Check(s); e != api.ErrArg {
			t.Error(i, e)
		}
	}
}

func TestCheckFigure(t *testing.T) {
	for i, f := range []api.OutlineFigure{
		figureF(), figureH(), fig("#"), fig(".#"), fig("..", ".#"), fig("######"), fig("#", ".", ".", ".", ".", "."),
		fig(slices.Repeat([]string{"######"}, 6)...),
	} {
		if e := outline.CheckFigure(f); e != api.OK {
			t.Error(i, e)
		}
	}
	for i, f := range badFigures() {
		if e := outline.CheckFigure(f); e != api.ErrArg {
			t.Error(i, e)
		}
	}
}

func TestShadowOfTheChapter(t *testing.T) {
	const light = "........"
	for i, x := range []struct {
		s    api.OutlineStage
		f    api.OutlineFigure
		p    api.OutlinePlace
		want []string
	}{
		{stageS(), figureF(), at(1, 3, 3), []string{light, light, "..++++..", "..+##+..", "..+##+..", "..++++..", light, light}},
		{stageT(), figureH(), at(4, 3, 3), []string{light, ".++++++.", ".++++++.", ".++++++.", ".++++++.", ".++++...", ".++++...", light}},
		{stageS(), figureF(), at(4, 3, 3), []string{light, light, "..####..", "..####..", "..####..", "..####..", light, light}},
		{stageS(), figureF(), at(0, -20, -20), slices.Repeat([]string{light}, 8)},
		{stageS(), figureF(), at(0, -1, 7), []string{light, light, light, light, light, light, light, "#......."}},
	} {
		if y, e := outline.Shadow(x.s, x.f, x.p); e != api.OK || !slices.Equal(y, x.want) {
			t.Errorf("%d: %q %v", i, y, e)
		}
	}
	for i, x := range []struct {
		s          api.OutlineStage
		f          api.OutlineFigure
		p          api.OutlinePlace
		dark, grey int
	}{
		{stageS(), figureF(), at(0, 3, 3), 4, 0},
		{stageS(), figureH(), at(0, 3, 3), 3, 0},
		{stageS(), figureF(), at(4, 3, 3), 16, 0},
		{stageT(), figureF(), at(4, 3, 3), 4, 32},
		{stageS(), figureF(), at(0, 20, 20), 0, 0},
	} {
		if dark, grey, e := outline.Counts(x.s, x.f, x.p); e != api.OK || dark != x.dark || grey != x.grey {
			t.Error(i, dark, grey, e)
		}
	}
}

func TestShadowErrors(t *testing.T) {
	check := func(name string, s api.OutlineStage, f api.OutlineFigure, p api.OutlinePlace) {
		if y, e := outline.Shadow(s, f, p); e != api.ErrArg || len(y) > 0 {
			t.Error(name, s, f, p, y, e)
		}
		if a, b, e := outline.Counts(s, f, p); e != api.ErrArg || a != 0 || b != 0 {
			t.Error(name, s, f, p, a, b, e)
		}
	}
	for _, s := range badStages() {
		check("stage", s, figureF(), at(0, 3, 3))
	}
	for _, f := range badFigures() {
		check("figure", stageS(), f, at(0, 3, 3))
	}
	for _, p := range badPlaces() {
		check("place", stageS(), figureF(), p)
	}
}

// At the cloth the shadow is the figure itself, wherever it is and however the flame wanders.
func TestShadowAtTheCloth(t *testing.T) {
	g := random(11)
	for range 300 {
		s, f := randomStage(g, 16), randomFigure(g, 6)
		p := at(0, g.IntN(41)-20, g.IntN(41)-20)
		y, e := outline.Shadow(s, f, p)
		if e != api.OK || len(y) != s.High {
			t.Fatal(y, e)
		}
		for m, row := range y {
			if len(row) != s.Wide {
				t.Fatal(row)
			}
			for k := range row {
				want := byte('.')
				if j, i := m-p.Y, k-p.X; j >= 0 && j < len(f.Rows) && i >= 0 && i < len(f.Rows[0]) {
					want = f.Rows[j][i]
				}
				if row[k] != want {
					t.Fatal(s, f, p, k, m)
				}
			}
		}
	}
}

func TestShadowIsThatOfSmallSquares(t *testing.T) {
	g := random(12)
	for range 400 {
		s, f := randomStage(g, 7), randomFigure(g, 6)
		p := randomPlace(g, s)
		want := slowShadow(s, f, p)
		y, e := outline.Shadow(s, f, p)
		if e != api.OK || !slices.Equal(y, want) {
			t.Fatalf("%v %v %v: %q %v, not %q", s, f, p, y, e, want)
		}
		all := strings.Join(want, "")
		dark, grey, e := outline.Counts(s, f, p)
		if e != api.OK || dark != strings.Count(all, "#") || grey != strings.Count(all, "+") {
			t.Fatal(s, f, p, dark, grey, e)
		}
	}
}

// Points of dark cells, edges among them, are in the shadow of hide, and points within light cells are not in that of a #.
func TestPointsOfTheCloth(t *testing.T) {
	const fine = 4
	g := random(13)
	for range 60 {
		s, f := randomStage(g, 8), randomFigure(g, 4)
		p := randomPlace(g, s)
		y, _ := outline.Shadow(s, f, p)
		for range 2000 {
			k, m := g.IntN(s.Wide), g.IntN(s.High)
			i, j := g.IntN(fine+1), g.IntN(fine+1)
			a, b := g.IntN(2*fine*s.Flame+1)-fine*s.Flame, g.IntN(2*fine*s.Flame+1)-fine*s.Flame
			d := s.Far - p.Near
			px := fine*s.X*s.Far + (fine*(k-s.X)+i)*d + a*p.Near
			py := fine*s.Y*s.Far + (fine*(m-s.Y)+j)*d + b*p.Near
			within := i > 0 && i < fine && j > 0 && j < fine
			switch y[m][k] {
			case '#':
				if !hide(f, p, px, py, fine*s.Far, true) {
					t.Fatal("dark", s, f, p, k, m, i, j, a, b)
				}
			case '.':
				if within && hide(f, p, px, py, fine*s.Far, false) {
					t.Fatal("light", s, f, p, k, m, i, j, a, b)
				}
			}
		}
	}
}

func TestJoinedOfTheSection(t *testing.T) {
	const light = "........"
	for i, x := range []struct {
		s      api.OutlineStage
		list   []api.OutlineFigure
		places []api.OutlinePlace
		want   []string
	}{
		{stageS(), nil, nil, slices.Repeat([]string{light}, 8)},
		{stageS(), company(), []api.OutlinePlace{}, slices.Repeat([]string{light}, 8)},
		{stageS(), company(figureF()), []api.OutlinePlace{at(0, 3, 3)}, []string{light, light, light, "...##...", "...##...", light, light, light}},
		// the first one is grey where the second one is dark, and the other way round
		{stageS(), company(figureF(), figureF()), []api.OutlinePlace{at(1, 3, 3), at(0, 2, 2)}, []string{light, light, "..##++..", "..###+..", "..+##+..", "..++++..", light, light}},
		{stageS(), company(figureF(), figureF()), []api.OutlinePlace{at(0, 2, 2), at(1, 3, 3)}, []string{light, light, "..##++..", "..###+..", "..+##+..", "..++++..", light, light}},
		{stageS(), slices.Repeat(company(fig("#")), 6), []api.OutlinePlace{at(0, 0, 0), at(0, 1, 0), at(0, 2, 0), at(0, 3, 0), at(0, 4, 0), at(0, 6, 0)}, []string{"#####.#.", light, light, light, light, light, light, light}},
	} {
		if y, e := outline.Joined(x.s, x.list, x.places); e != api.OK || !slices.Equal(y, x.want) {
			t.Errorf("%d: %q %v", i, y, e)
		}
	}
}

func TestJoinedErrors(t *testing.T) {
	check := func(s api.OutlineStage, list []api.OutlineFigure, places ...api.OutlinePlace) {
		if y, e := outline.Joined(s, list, places); e != api.ErrArg || len(y) > 0 {
			t.Error(s, list, places, y, e)
		}
	}
	good := at(0, 3, 3)
	for _, s := range badStages() {
		check(s, nil)
	}
	for _, f := range badFigures() {
		check(stageS(), company(figureF(), f), good, good)
	}
	for _, p := range badPlaces() {
		check(stageS(), company(figureF(), figureF()), good, p)
	}
	check(stageS(), company(figureF()))
	check(stageS(), nil, good)
	check(stageS(), company(figureF()), good, good)
	check(stageS(), slices.Repeat(company(figureF()), 7), slices.Repeat([]api.OutlinePlace{good}, 7)...)
}

// The joined shadow, and whether shadows meet, follow from the single shadows.
func TestJoinedAndMeetsFollow(t *testing.T) {
	g := random(14)
	words := map[api.OutlineWord]int{}
	for range 500 {
		s, f, h := randomStage(g, 10), randomFigure(g, 4), randomFigure(g, 4)
		p, q := randomPlace(g, s), randomPlace(g, s)
		one, _ := outline.Shadow(s, f, p)
		other, _ := outline.Shadow(s, h, q)
		joined, e := outline.Joined(s, company(f, h), []api.OutlinePlace{p, q})
		if e != api.OK {
			t.Fatal(e)
		}
		want := api.OutlineNever
		for m := range s.High {
			for k := range s.Wide {
				two := string([]byte{one[m][k], other[m][k]})
				if strings.Count(two, "#") == 2 {
					want = api.OutlineSurely
				} else if !strings.Contains(two, ".") && want == api.OutlineNever {
					want = api.OutlineMay
				}
				if tone(two != "..", strings.Contains(two, "#")) != joined[m][k] {
					t.Fatal(two, joined[m][k])
				}
			}
		}
		if w, e := outline.Meets(s, f, p, h, q); e != api.OK || w != want {
			t.Fatal(s, f, p, h, q, w, e)
		}
		words[want]++
	}
	if len(words) != 3 {
		t.Error(words)
	}
}

func TestMeetsOfTheChapter(t *testing.T) {
	for i, x := range []struct {
		s    api.OutlineStage
		f    api.OutlineFigure
		p    api.OutlinePlace
		g    api.OutlineFigure
		q    api.OutlinePlace
		want api.OutlineWord
	}{
		{stageS(), figureF(), at(0, 3, 3), figureH(), at(0, 4, 3), api.OutlineSurely},
		{stageS(), figureF(), at(0, 3, 3), figureH(), at(0, 5, 3), api.OutlineNever},
		{stageT(), figureF(), at(1, 3, 3), figureF(), at(1, 5, 3), api.OutlineMay},
		{stageS(), figureF(), at(0, 20, 3), figureF(), at(0, 20, 3), api.OutlineNever},
	} {
		if w, e := outline.Meets(x.s, x.f, x.p, x.g, x.q); e != api.OK || w != x.want {
			t.Error(i, w, e)
		}
	}
}

func TestMeetsErrors(t *testing.T) {
	check := func(s api.OutlineStage, f api.OutlineFigure, p api.OutlinePlace, g api.OutlineFigure, q api.OutlinePlace) {
		if w, e := outline.Meets(s, f, p, g, q); e != api.ErrArg || w != 0 {
			t.Error(s, f, p, g, q, w, e)
		}
	}
	good := at(0, 3, 3)
	for _, s := range badStages() {
		check(s, figureF(), good, figureF(), good)
	}
	for _, f := range badFigures() {
		check(stageS(), f, good, figureF(), good)
		check(stageS(), figureF(), good, f, good)
	}
	for _, p := range badPlaces() {
		check(stageS(), figureF(), p, figureF(), good)
		check(stageS(), figureF(), good, figureF(), p)
	}
}
