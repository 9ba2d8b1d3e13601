package outline_test

import (
	"slices"
	"strings"
	"testing"

	"kelir/api"
	"kelir/outline"
)

const (
	never  = api.OutlineNever
	may    = api.OutlineMay
	surely = api.OutlineSurely
)

func reading(figure, near, x, y int) api.OutlineReading {
	return api.OutlineReading{Figure: figure, Place: at(near, x, y)}
}

func TestSeenOfTheChapter(t *testing.T) {
	s, f, h := stageS(), figureF(), figureH()
	n := blank(s)
	d := put(s, n, 36, '#')
	all := []api.OutlineReading{reading(0, 0, 3, 3), reading(0, 1, 3, 3), reading(1, 0, 3, 3), reading(1, 1, 3, 3)}
	for i, x := range []struct {
		s     api.OutlineStage
		list  []api.OutlineFigure
		sight []string
		reads []api.OutlineReading
		who   []api.OutlineWord
		e     api.Errno
	}{
		{s, company(f, h), d, all[:2], []api.OutlineWord{surely, never}, api.OK},
		{stageT(), company(f, h), d, []api.OutlineReading{all[0], all[1], all[3]}, []api.OutlineWord{may, may}, api.OK},
		{s, company(f, h), n, all, []api.OutlineWord{may, may}, api.OK},
		// a grey cell excludes nothing
		{s, company(f, h), put(s, n, 36, '+'), all, []api.OutlineWord{may, may}, api.OK},
		{s, company(f, h), put(s, n, 27, '.'), nil, nil, api.ErrRule},
		// figures that are the same are two figures
		{s, company(f, f), d, all, []api.OutlineWord{may, may}, api.OK},
		{s, company(f), d, all[:2], []api.OutlineWord{surely}, api.OK},
	} {
		if y, e := outline.Reads(x.s, x.list, reachR(), x.sight); e != api.OK || !slices.Equal(y, x.reads) {
			t.Error(i, y, e)
		}
		if y, e := outline.Who(x.s, x.list, reachR(), x.sight); e != x.e || !slices.Equal(y, x.who) {
			t.Error(i, y, e)
		}
	}
}

func TestNextOfTheChapter(t *testing.T) {
	s, f, h := stageS(), figureF(), figureH()
	n := blank(s)
	for i, x := range []struct {
		s          api.OutlineStage
		sight      []string
		cell, most int
		e          api.Errno
	}{
		{s, n, 36, 1, api.OK},
		{stageT(), n, 0, 2, api.OK},
		{s, put(s, n, 36, '#'), 0, 1, api.OK},
		// what has been seen is not proposed, be it grey
		{s, put(s, n, 36, '+'), 0, 2, api.OK},
		{s, put(s, n, 0, '.'), 36, 1, api.OK},
		{s, put(s, n, 27, '.'), 0, 0, api.ErrRule},
		{s, slices.Repeat([]string{"++++++++"}, 8), 0, 0, api.ErrNone},
		// nothing agrees, and no cell is left
		{s, slices.Repeat([]string{"........"}, 8), 0, 0, api.ErrRule},
	} {
		if cell, most, e := outline.Next(x.s, company(f, h), reachR(), x.sight); e != x.e || cell != x.cell || most != x.most {
			t.Error(i, cell, most, e)
		}
	}
}

// Readings are in the order of figures, then of Near, then of X.
func TestReadsOrder(t *testing.T) {
	s := stageS()
	r := api.OutlineReach{Near: span(2, 7), X: span(-20, -15), Y: -20}
	var want []api.OutlineReading
	for figure := range 6 {
		for near := 2; near <= 7; near++ {
			for x := -20; x <= -15; x++ {
				want = append(want, reading(figure, near, x, -20))
			}
		}
	}
	y, e := outline.Reads(s, slices.Repeat(company(figureF()), 6), r, blank(s))
	if e != api.OK || !slices.Equal(y, want) {
		t.Error(y, e)
	}
}

func slowReads(s api.OutlineStage, list []api.OutlineFigure, r api.OutlineReach, sight []string) []api.OutlineReading {
	var out []api.OutlineReading
	for figure, f := range list {
		for near := r.Near.Low; near <= r.Near.High; near++ {
			for x := r.X.Low; x <= r.X.High; x++ {
				if y, _ := outline.Shadow(s, f, at(near, x, r.Y)); agree(y, sight) {
					out = append(out, reading(figure, near, x, r.Y))
				}
			}
		}
	}
	return out
}

func TestSeenFollows(t *testing.T) {
	g := random(31)
	count := map[api.OutlineWord]int{}
	for range 500 {
		s, list := randomStage(g, 8), randomCompany(g)
		r, sight := randomReach(g, s), randomSight(g, s)
		want := slowReads(s, list, r, sight)
		if y, e := outline.Reads(s, list, r, sight); e != api.OK || !slices.Equal(y, want) {
			t.Fatal(s, list, r, sight, y, e)
		}
		seen := make([]bool, len(list))
		for _, one := range want {
			seen[one.Figure] = true
		}
		some := 0
		for _, is := range seen {
			if is {
				some++
			}
		}
		who, e := outline.Who(s, list, r, sight)
		if some == 0 {
			if e != api.ErrRule || len(who) > 0 {
				t.Fatal(who, e)
			}
			continue
		}
		if e != api.OK || len(who) != len(list) {
			t.Fatal(who, e)
		}
		for figure, w := range who {
			if seen[figure] != (w != never) || (w == surely) != (seen[figure] && some == 1) || w < never || w > surely {
				t.Fatal(s, list, r, sight, who)
			}
			count[w]++
		}
	}
	if len(count) != 3 {
		t.Error(count)
	}
}

// Whatever figure throws its shadow, it may be seen in what part of the shadow is looked at.
func TestWhoThrowsMayBeSeen(t *testing.T) {
	g := random(32)
	for range 300 {
		s, list := randomStage(g, 8), randomCompany(g)
		r := randomReach(g, s)
		figure, near, x := g.IntN(len(list)), r.Near.Low+g.IntN(r.Near.High-r.Near.Low+1), r.X.Low+g.IntN(r.X.High-r.X.Low+1)
		shadow, _ := outline.Shadow(s, list[figure], at(near, x, r.Y))
		sight := blank(s)
		for range 1 + g.IntN(20) {
			cell := g.IntN(s.Wide * s.High)
			c := shadow[cell/s.Wide][cell%s.Wide]
			if c == '+' { // a grey cell can be taken for anything
				c = "#.+"[g.IntN(3)]
			}
			sight = put(s, sight, cell, c)
		}
		if who, e := outline.Who(s, list, r, sight); e != api.OK || who[figure] == never {
			t.Fatal(s, list, r, figure, near, x, sight, who, e)
		}
		y, e := outline.Reads(s, list, r, sight)
		if e != api.OK || !slices.Contains(y, reading(figure, near, x, r.Y)) {
			t.Fatal(y, e)
		}
	}
}

// left returns how many figures may be seen.
func left(s api.OutlineStage, list []api.OutlineFigure, r api.OutlineReach, sight []string) int {
	who, _ := outline.Who(s, list, r, sight)
	n := 0
	for _, w := range who {
		if w != never {
			n++
		}
	}
	return n
}

func TestNextFollows(t *testing.T) {
	g := random(33)
	count := map[int]int{}
	for range 250 {
		s, list := randomStage(g, 5), randomCompany(g)
		r, sight := randomReach(g, s), randomSight(g, s)
		cell, most, e := outline.Next(s, list, r, sight)
		if left(s, list, r, sight) == 0 {
			if e != api.ErrRule || cell != 0 || most != 0 {
				t.Fatal(cell, most, e)
			}
			continue
		}
		want, least := -1, 0
		for n := range s.Wide * s.High {
			if strings.Join(sight, "")[n] != '?' {
				continue
			}
			worst := max(left(s, list, r, put(s, sight, n, '#')), left(s, list, r, put(s, sight, n, '.')))
			if want < 0 || worst < least {
				want, least = n, worst
			}
		}
		if want < 0 {
			if e != api.ErrNone || cell != 0 || most != 0 {
				t.Fatal(cell, most, e)
			}
			continue
		}
		if e != api.OK || cell != want || most != least {
			t.Fatal(s, list, r, sight, cell, most, e, want, least)
		}
		count[most]++
	}
	if len(count) < 4 {
		t.Error(count)
	}
}

func TestSeenErrors(t *testing.T) {
	check := func(s api.OutlineStage, list []api.OutlineFigure, r api.OutlineReach, sight []string) {
		if y, e := outline.Reads(s, list, r, sight); e != api.ErrArg || len(y) > 0 {
			t.Error(s, list, r, sight, y, e)
		}
		if y, e := outline.Who(s, list, r, sight); e != api.ErrArg || len(y) > 0 {
			t.Error(s, list, r, sight, y, e)
		}
		if a, b, e := outline.Next(s, list, r, sight); e != api.ErrArg || a != 0 || b != 0 {
			t.Error(s, list, r, sight, a, b, e)
		}
	}
	good := company(figureF(), figureH())
	for _, s := range badStages() {
		check(s, good, reachR(), blank(stageS()))
	}
	for _, list := range badCompanies() {
		check(stageS(), list, reachR(), blank(stageS()))
	}
	for _, r := range badReaches() {
		check(stageS(), good, r, blank(stageS()))
	}
	for _, sight := range badSights() {
		check(stageS(), good, reachR(), sight)
	}
}

// The bounds of a reach are among it.
func TestReachBounds(t *testing.T) {
	s := stageS()
	for i, r := range []api.OutlineReach{
		{Near: span(0, 5), X: span(-20, -15), Y: -20}, {Near: span(2, 7), X: span(15, 20), Y: 20}, {Near: span(7, 7), X: span(-3, 2), Y: 0},
	} {
		if y, e := outline.Reads(s, company(figureF()), r, blank(s)); e != api.OK || len(y) != (r.Near.High-r.Near.Low+1)*6 {
			t.Error(i, y, e)
		}
	}
}
