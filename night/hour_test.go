package night_test

import (
	"slices"
	"testing"

	"kelir/api"
	"kelir/night"
)

const (
	never  = api.NightNever
	may    = api.NightMay
	surely = api.NightSurely
)

// P3.3: the chapter's examples, and scenes that are not played in each choice.
func TestTimesAndLengths(t *testing.T) {
	late := with(planP(), func(p *api.NightPlan) { p.Begin = 30 })
	for i, x := range []struct {
		p              api.NightPlan
		scene          int
		times, lengths api.Span
	}{
		{planP(), 0, span(0, 0), span(40, 50)}, {planP(), 1, span(40, 50), span(20, 30)}, {planP(), 2, span(60, 70), span(50, 60)}, {planP(), 4, span(120, 130), span(55, 70)},
		{late, 0, span(30, 30), span(40, 40)}, {late, 2, span(70, 70), span(50, 60)}, {late, 4, span(120, 130), span(55, 70)},
		// with the battle 3 the scene 2 lasts 50 to 52, without it 58 to 62
		{calmPlan(), 0, span(0, 0), span(60, 62)}, {calmPlan(), 1, span(60, 62), span(58, 62)}, {calmPlan(), 2, span(120, 122), span(50, 62)}, {calmPlan(), 3, span(170, 172), span(10, 12)},
		{restPlan(), 0, span(5, 5), span(1, 1)}, {restPlan(), 1, span(5, 6), span(6, 7)},
	} {
		if y, e := night.Times(x.p, x.scene); e != api.OK || y != x.times {
			t.Error(i, y, e)
		}
		if y, e := night.Lengths(x.p, x.scene); e != api.OK || y != x.lengths {
			t.Error(i, y, e)
		}
	}
}

// P3.3: a plan that is not possible, and scenes that are in no programme that fits.
func TestTimesErrors(t *testing.T) {
	for i, call := range []func(api.NightPlan, int) (api.Span, api.Errno){night.Times, night.Lengths} {
		for _, scene := range badScenes() {
			if y, e := call(planP(), scene); e != api.ErrArg || y != (api.Span{}) {
				t.Error(i, scene, y, e)
			}
			if y, e := call(planQ(), scene); e != api.ErrArg || y != (api.Span{}) {
				t.Error(i, scene, y, e)
			}
		}
		if y, e := call(planP(), 3); e != api.ErrNone || y != (api.Span{}) {
			t.Error(i, y, e)
		}
		for scene := range 5 {
			if y, e := call(planQ(), scene); e != api.ErrRule || y != (api.Span{}) {
				t.Error(i, scene, y, e)
			}
		}
	}
	if y, e := night.Ends(planQ()); e != api.ErrRule || y != nil {
		t.Error(y, e)
	}
	if y, e := night.Played(planQ()); e != api.ErrRule || y != nil {
		t.Error(y, e)
	}
}

// P3.3: against all programmes. Each bound is reached, and none is left.
func TestTimesAreDefined(t *testing.T) {
	onPlans(t, 11, 500, func(p api.NightPlan, shows []show) {
		for n := range p.Scenes {
			var begins, lengths []int
			for _, s := range shows {
				if i := s.place(n); i >= 0 {
					begins, lengths = append(begins, s.begins[i]), append(lengths, s.lengths[i])
				}
			}
			times, e := night.Times(p, n)
			lasts, f := night.Lengths(p, n)
			if len(begins) > 0 {
				if e != api.OK || f != api.OK || times != hull(begins) || lasts != hull(lengths) {
					t.Fatal(p, n, times, e, lasts, f)
				}
				continue
			}
			want := api.ErrNone
			if len(shows) == 0 {
				want = api.ErrRule
			}
			if e != want || f != want || times != (api.Span{}) || lasts != (api.Span{}) {
				t.Fatal(p, n, times, e, lasts, f)
			}
		}
	})
}

// P3.3.
func TestEndsAreDefined(t *testing.T) {
	onPlans(t, 12, 500, func(p api.NightPlan, shows []show) {
		y, e := night.Ends(p)
		if len(shows) == 0 {
			if e != api.ErrRule || y != nil {
				t.Fatal(p, y, e)
			}
			return
		}
		var want []api.Span
		for part := range 3 {
			var ends []int
			for _, s := range shows {
				ends = append(ends, s.ends[part])
			}
			want = append(want, hull(ends))
		}
		if e != api.OK || !slices.Equal(y, want) {
			t.Fatal(p, y, e, want)
		}
	})
}

// P3.3: the chapter's examples, and parts without scenes.
func TestEnds(t *testing.T) {
	for i, x := range []struct {
		p    api.NightPlan
		want []api.Span
	}{
		{planP(), []api.Span{span(60, 70), span(120, 130), span(180, 200)}},
		{calmPlan(), []api.Span{span(60, 62), span(120, 122), span(180, 182)}},
		{restPlan(), []api.Span{span(5, 5), span(5, 6), span(5, 12)}},
		{plan(100, span(100, 110), span(100, 105), span(160, 170), scene(2, 60, 70)), []api.Span{span(100, 100), span(100, 100), span(160, 170)}},
		// what follows bounds what is before it
		{plan(0, span(0, 30), span(20, 40), span(45, 50), scene(0, 5, 25), scene(1, 7, 9), scene(2, 10, 12)), []api.Span{span(24, 25), span(33, 34), span(45, 46)}},
	} {
		if y, e := night.Ends(x.p); e != api.OK || !slices.Equal(y, x.want) {
			t.Error(i, y, e)
		}
	}
}

// P3.4: the chapter's examples, and what is played in some programmes.
func TestPlayed(t *testing.T) {
	for i, x := range []struct {
		p    api.NightPlan
		want []api.NightWord
	}{
		{planP(), []api.NightWord{surely, surely, surely, never, surely}},
		{with(planP(), func(p *api.NightPlan) { p.Begin = 30 }), []api.NightWord{surely, never, surely, never, surely}},
		{calmPlan(), []api.NightWord{surely, surely, surely, may}},
		{restPlan(), []api.NightWord{may, may}},
		{plan(7, span(7, 7), span(7, 7), span(7, 7), battle(0, 1, 240)), []api.NightWord{never}},
		{plan(7, span(8, 8), span(8, 8), span(8, 8), battle(0, 1, 240), battle(2, 1, 1)), []api.NightWord{surely, never}},
	} {
		if y, e := night.Played(x.p); e != api.OK || !slices.Equal(y, x.want) {
			t.Error(i, y, e)
		}
	}
}

// P3.4: against all programmes.
func TestPlayedIsDefined(t *testing.T) {
	met := map[api.NightWord]int{}
	onPlans(t, 13, 500, func(p api.NightPlan, shows []show) {
		y, e := night.Played(p)
		if len(shows) == 0 {
			if e != api.ErrRule || y != nil {
				t.Fatal(p, y, e)
			}
			return
		}
		var want []api.NightWord
		for n := range p.Scenes {
			played := 0
			for _, s := range shows {
				if s.place(n) >= 0 {
					played++
				}
			}
			word := may
			if played == 0 {
				word = never
			} else if played == len(shows) {
				word = surely
			}
			want = append(want, word)
			met[word]++
		}
		if e != api.OK || !slices.Equal(y, want) {
			t.Fatal(p, y, e, want)
		}
	})
	if met[never] < 20 || met[may] < 20 || met[surely] < 20 {
		t.Error(met)
	}
}
