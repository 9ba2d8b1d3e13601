package stem_test

import (
	"fmt"
	"reflect"
	"slices"
	"testing"

	"kelir/api"
	"kelir/stem"
)

// P5.1 to P5.8, P0.1: each function returns ErrArg, and nothing else, for a play that is not as defined.
func TestBadPlays(t *testing.T) {
	for i, p := range badPlays() {
		for name, call := range map[string]func() []any{
			"Hands":   func() []any { y, e := stem.Hands(p, 0); return []any{y, e} },
			"Rests":   func() []any { y, e := stem.Rests(p, 0, l(0, 1)); return []any{y, e} },
			"Can":     func() []any { y, e := stem.Can(p, 0); return []any{y, e} },
			"Fails":   func() []any { y, z, e := stem.Fails(p); return []any{y, z, e} },
			"Count":   func() []any { y, e := stem.Count(p, 0); return []any{y, e} },
			"First":   func() []any { y, e := stem.First(p, 0); return []any{y, e} },
			"Places":  func() []any { y, e := stem.Places(p, 0, 0); return []any{y, e} },
			"Plan":    func() []any { y, z, e := stem.Plan(p); return []any{y, z, e} },
			"Changes": func() []any { y, e := stem.Changes(p, planA()); return []any{y, e} },
			"Where":   func() []any { y, e := stem.Where(p, 0, 0); return []any{y, e} },
			"Adds":    func() []any { y, e := stem.Adds(p, 0); return []any{y, e} },
			"Joins":   func() []any { y, e := stem.Joins(p, 0); return []any{y, e} },
			"Lower":   func() []any { y, e := stem.Lower(p); return []any{y, e} },
			"Leaves":  func() []any { y, e := stem.Leaves(p); return []any{y, e} },
			"Print":   func() []any { y, e := stem.Print(p); return []any{y, e} },
		} {
			y := call()
			last := len(y) - 1
			if y[last] != api.ErrArg {
				t.Error(i, name, p, y)
			}
			for _, v := range y[:last] {
				if !isZero(v) {
					t.Error(i, name, p, y)
				}
			}
		}
	}
}

// P5.9: if all Heights are less by the same number, each arrangement still is one.
func TestLowered(t *testing.T) {
	g := random(51)
	some := 0
	for range 500 {
		p := randomPlay(g, whole)
		low := slices.Min(p.Heights)
		if low == 1 {
			continue
		}
		lower := lowered(p, 1+g.IntN(low-1))
		for scene, s := range p.Scenes {
			for _, places := range slowArrangements(p, s) {
				some++
				if is, e := stem.Rests(lower, scene, places); e != api.OK || !is {
					t.Fatal(p, lower, scene, places, e)
				}
			}
			checkStill(t, p, lower, scene)
		}
	}
	if some < 100 {
		t.Error(some)
	}
}

// P5.9: if a place is not Taken any more, each arrangement still is one.
func TestUntaken(t *testing.T) {
	g := random(52)
	some := 0
	for range 500 {
		p := randomPlay(g, whole)
		for scene, s := range p.Scenes {
			for n := range s.Taken {
				free := with(p, func(p *api.StemPlay) { p.Scenes[scene].Taken = slices.Delete(p.Scenes[scene].Taken, n, n+1) })
				for _, places := range slowArrangements(p, s) {
					some++
					if is, e := stem.Rests(free, scene, places); e != api.OK || !is {
						t.Fatal(p, scene, places, e)
					}
				}
				checkStill(t, p, free, scene)
			}
		}
	}
	if some < 100 {
		t.Error(some)
	}
}

// checkStill checks that a scene of a play can be played if it could be in another play.
func checkStill(t *testing.T, before, after api.StemPlay, scene int) {
	t.Helper()
	can, e := stem.Can(before, scene)
	still, f := stem.Can(after, scene)
	if e != api.OK || f != api.OK || can && !still {
		t.Fatal(before, after, scene, e, f)
	}
}

// P5.9: a figure less in a Rest, or in a Moved, leaves each scene playable that was.
func TestFewer(t *testing.T) {
	g := random(53)
	some := 0
	for range 500 {
		p := randomPlay(g, whole)
		for scene, s := range p.Scenes {
			for n := range s.Rest {
				checkStill(t, p, with(p, func(p *api.StemPlay) { p.Scenes[scene].Rest = slices.Delete(p.Scenes[scene].Rest, n, n+1) }), scene)
			}
			for n := range s.Moved {
				checkStill(t, p, with(p, func(p *api.StemPlay) { p.Scenes[scene].Moved = slices.Delete(p.Scenes[scene].Moved, n, n+1) }), scene)
			}
			if slowLack(p, s) == 0 && len(s.Rest) > 1 && len(s.Moved) > 0 {
				some++
			}
		}
	}
	if some < 30 {
		t.Error(some)
	}
}

// P0.5: the first scene that needs a third hand, or a place that is taken, is named.
func TestHandsAndPlaces(t *testing.T) {
	if n, lack, e := stem.Fails(playB()); e != api.OK || n != 2 || lack != api.StemNoPlace {
		t.Error(n, lack, e)
	}
	if n, lack, e := stem.Fails(playD()); e != api.OK || n != 1 || lack != api.StemHands {
		t.Error(n, lack, e)
	}
}

// Nil and empty lists are the same (R3).
func TestNilAndEmpty(t *testing.T) {
	one, other := evenPlay(2, 2, api.StemScene{}, rest(0)), evenPlay(2, 2, api.StemScene{Moved: l(), Rest: l(), Taken: l()}, api.StemScene{Moved: l(), Rest: l(0), Taken: l()})
	for i, call := range []func(p api.StemPlay, list []int) string{
		func(p api.StemPlay, list []int) string { y, e := stem.Rests(p, 0, list); return fmt.Sprint(y, e) },
		func(p api.StemPlay, list []int) string { y, e := stem.First(p, 0); return fmt.Sprint(y, e) },
		func(p api.StemPlay, list []int) string { y, n, e := stem.Plan(p); return fmt.Sprint(y, n, e) },
		func(p api.StemPlay, list []int) string {
			y, e := stem.Changes(p, ll(list, l(1)))
			return fmt.Sprint(y, e)
		},
		func(p api.StemPlay, list []int) string { y, e := stem.Adds(p, 0); return fmt.Sprint(y, e) },
		func(p api.StemPlay, list []int) string { y, e := stem.Joins(p, 0); return fmt.Sprint(y, e) },
		func(p api.StemPlay, list []int) string { y, e := stem.Print(p); return fmt.Sprint(y, e) },
	} {
		if y, z := call(one, nil), call(other, l()); y != z {
			t.Error(i, y, z)
		}
	}
}

// cleared sets all that a result has to zero, as deep as it goes.
func cleared(v reflect.Value) {
	for n := range v.Len() {
		if v.Index(n).Kind() == reflect.Slice {
			cleared(v.Index(n))
		} else {
			v.Index(n).SetZero()
		}
	}
}

// roomy returns a list with room behind it, in which there is something.
func roomy(list []int) []int {
	return append(slices.Clone(list), 7, 7, 7)[:len(list)]
}

func roomyPlay() api.StemPlay {
	return with(playA(), func(p *api.StemPlay) {
		p.Heights = roomy(p.Heights)
		for n, s := range p.Scenes {
			p.Scenes[n].Moved, p.Scenes[n].Rest, p.Scenes[n].Taken = roomy(s.Moved), roomy(s.Rest), roomy(s.Taken)
		}
	})
}

// behind returns the lists of a play with what is behind them.
func behind(p api.StemPlay) string {
	out := fmt.Sprint(p.Heights[:cap(p.Heights)])
	for _, s := range p.Scenes {
		out += fmt.Sprint(s.Moved[:cap(s.Moved)], s.Rest[:cap(s.Rest)], s.Taken[:cap(s.Taken)])
	}
	return out
}

// No argument is changed, results share no memory, and two calls have equal results (R4, R8).
func TestMemory(t *testing.T) {
	p := roomyPlay()
	before := behind(p)
	text, _ := stem.Print(p)
	for i, call := range []func() any{
		func() any { y, _ := stem.First(p, 2); return y },
		func() any { y, _ := stem.Places(p, 2, 2); return y },
		func() any { y, _, _ := stem.Plan(p); return y },
		func() any { y, _ := stem.Where(p, 2, 2); return y },
		func() any { y, _ := stem.Adds(p, 3); return y },
		func() any { y, _ := stem.Joins(p, 3); return y },
		func() any { y, _ := stem.Leaves(playB()); return y },
		func() any { y, _ := stem.Read(text); return y.Heights },
		func() any { y, _ := stem.Read(text); return y.Figures },
		func() any { y, _ := stem.Read(text); return y.Scenes },
		func() any { y, _ := stem.Read(text); return y.Scenes[1].Rest },
	} {
		one, other := call(), call()
		want := fmt.Sprint(other)
		if fmt.Sprint(one) != want || reflect.ValueOf(one).Len() == 0 {
			t.Error(i, one, other)
		}
		cleared(reflect.ValueOf(one))
		if fmt.Sprint(other) != want || fmt.Sprint(call()) != want {
			t.Error(i, "results share memory", other)
		}
	}
	plan, places := planA(), roomy(l(0, 1))
	for range 2 {
		stem.Check(p)
		stem.Hands(p, 1)
		stem.Rests(p, 0, places)
		stem.Can(p, 1)
		stem.Fails(p)
		stem.Count(p, 2)
		stem.Changes(p, plan)
		stem.Lower(p)
		stem.Leaves(p)
		stem.Adds(p, 0)
		stem.Joins(p, 0)
		stem.Leaves(with(p, func(p *api.StemPlay) { p.Scenes[0].Knocks = 2 }))
	}
	if !samePlay(p, playA()) || behind(p) != before || !samePlan(plan, planA()) || !slices.Equal(places[:5], l(0, 1, 7, 7, 7)) {
		t.Error("an argument was changed", p, plan, places)
	}
}

// The lists of one result share no memory (R4).
func TestMemoryOfOne(t *testing.T) {
	plan, _, _ := stem.Plan(greatestPlay())
	want := fmt.Sprint(plan[1:])
	_ = append(plan[0][:0], 9, 9, 9, 9)
	if len(plan) != 5 || fmt.Sprint(plan[1:]) != want {
		t.Error("lists of a plan share memory", plan)
	}
	text, _ := stem.Print(playA())
	p, _ := stem.Read(text)
	_ = append(p.Scenes[1].Rest[:0], 9, 9, 9)
	_ = append(p.Heights, 9, 9, 9)
	p.Scenes[1].Rest = l(1, 2, 4)
	if !samePlay(p, playA()) {
		t.Error("lists of a play share memory", p)
	}
}

// P0.1: the longest searches end.
func TestGreatest(t *testing.T) {
	p := greatestPlay()
	plan, n, e := stem.Plan(p)
	if e != api.OK || n != 0 || !samePlan(plan, ll(l(0, 1, 2, 3), l(1, 2, 3, 0), l(2, 3, 0, 1), l(2, 3, 0, 1), l(2, 3, 0, 1))) {
		t.Error(plan, n, e)
	}
	for scene, s := range p.Scenes {
		for _, figure := range s.Rest {
			if y, e := stem.Where(p, scene, figure); e != api.OK || !slices.Equal(y, slices.Repeat([]api.StemWord{api.StemMay}, 6)) {
				t.Error(scene, figure, y, e)
			}
		}
	}
	full := with(p, func(p *api.StemPlay) {
		for n := range p.Scenes {
			p.Scenes[n].Taken = l(0, 1, 2)
		}
	})
	if y, e := stem.Leaves(full); e != api.OK || !slices.Equal(y, l(0, 2)) {
		t.Error(y, e)
	}
	if y, e := stem.Lower(full); e != api.ErrNone || y != 0 {
		t.Error(y, e)
	}
}
