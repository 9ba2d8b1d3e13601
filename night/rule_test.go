package night_test

import (
	"fmt"
	"reflect"
	"slices"
	"testing"

	"kelir/api"
	"kelir/night"
)

// P3.1 to P3.8, P0.1: each function returns ErrArg, and nothing else, for a plan that is not as defined.
func TestBadPlans(t *testing.T) {
	for i, p := range badPlans() {
		for name, call := range map[string]func() []any{
			"Allowed":   func() []any { y, e := night.Allowed(p, l(0, 1, 2, 4)); return []any{y, e} },
			"Fits":      func() []any { y, e := night.Fits(p, l(0, 1, 2, 4), l(40, 20, 60, 60)); return []any{y, e} },
			"Can":       func() []any { y, e := night.Can(p, l(0, 1, 2, 4)); return []any{y, e} },
			"Choices":   func() []any { y, e := night.Choices(p); return []any{y, e} },
			"Programme": func() []any { y, z, e := night.Programme(p); return []any{y, z, e} },
			"Times":     func() []any { y, e := night.Times(p, 0); return []any{y, e} },
			"Lengths":   func() []any { y, e := night.Lengths(p, 0); return []any{y, e} },
			"Ends":      func() []any { y, e := night.Ends(p); return []any{y, e} },
			"Played":    func() []any { y, e := night.Played(p); return []any{y, e} },
			"Sure":      func() []any { y, e := night.Sure(p, l(0, 1, 2, 4)); return []any{y, e} },
			"Surest":    func() []any { y, e := night.Surest(p); return []any{y, e} },
			"Misses":    func() []any { y, e := night.Misses(p); return []any{y, e} },
			"Fails":     func() []any { y, z, e := night.Fails(p, l(0, 1, 2, 4)); return []any{y, z, e} },
			"Longer":    func() []any { y, e := night.Longer(p, 0); return []any{y, e} },
			"Starts":    func() []any { y, e := night.Starts(p); return []any{y, e} },
			"Print":     func() []any { y, e := night.Print(p); return []any{y, e} },
		} {
			y := call()
			last := len(y) - 1
			if y[last] != api.ErrArg {
				t.Error(i, name, p, y)
			}
			for _, v := range y[:last] {
				if !reflect.ValueOf(v).IsZero() {
					t.Error(i, name, p, y)
				}
			}
		}
	}
}

// eased returns a plan with a wider window, a greater Most or a lesser Least.
func eased(p api.NightPlan, window, side, by int) api.NightPlan {
	return with(p, func(p *api.NightPlan) {
		w := [3]*api.Span{&p.Stars[0], &p.Stars[1], &p.Dawn}
		switch n := (window + side) % len(p.Scenes); {
		case window < 3 && side == 0:
			w[window].Low = max(0, w[window].Low-by)
		case window < 3:
			w[window].High += by
		case side == 0:
			p.Scenes[n].Least = max(1, p.Scenes[n].Least-by)
		default:
			p.Scenes[n].Most += by
		}
	})
}

// P3.9: with a wider window, a greater Most or a lesser Least, what could be played still can.
func TestEased(t *testing.T) {
	g := random(51)
	more := 0
	for range 1000 {
		p := randomPlan(g)
		wide := eased(p, g.IntN(9), g.IntN(2), 1+g.IntN(8))
		before, e := night.Choices(p)
		after, f := night.Choices(wide)
		if e != api.OK || f != api.OK {
			t.Fatal(p, wide, e, f)
		}
		for _, choice := range before {
			if can, e := night.Can(wide, choice); e != api.OK || !can {
				t.Fatal(p, wide, choice, can, e)
			}
		}
		if len(after) > len(before) {
			more++
		}
	}
	if more < 20 {
		t.Error(more)
	}
}

// P3.9: a scene that becomes Loose makes no plan impossible.
func TestLoosened(t *testing.T) {
	g := random(52)
	more := 0
	for range 5000 {
		p := randomPlan(g)
		n := g.IntN(len(p.Scenes))
		loose := with(p, func(p *api.NightPlan) { p.Scenes[n].Loose = true })
		before, _ := night.Choices(p)
		after, e := night.Choices(loose)
		if e != api.OK || len(after) < len(before) {
			t.Fatal(p, n, before, after, e)
		}
		for _, choice := range before {
			if !slices.ContainsFunc(after, func(other []int) bool { return slices.Equal(other, choice) }) {
				t.Fatal(p, n, choice, after)
			}
		}
		if len(before) == 0 && len(after) > 0 {
			more++
		}
	}
	if more < 10 {
		t.Error(more)
	}
}

// P0.3: of all choices that can be played the first one is returned, with its lengths; and each other one fails at the part that is named.
func TestFirstAndOthers(t *testing.T) {
	p := planP()
	choice, lengths, e := night.Programme(p)
	if e != api.OK || !slices.Equal(choice, l(0, 1, 2, 4)) || !slices.Equal(lengths, l(40, 20, 60, 60)) {
		t.Error(choice, lengths, e)
	}
	if fits, e := night.Fits(p, choice, lengths); e != api.OK || !fits {
		t.Error(fits, e)
	}
	if part, fault, e := night.Fails(p, l(0, 1, 2, 3, 4)); e != api.OK || part != 1 || fault != api.NightOver {
		t.Error(part, fault, e)
	}
	if part, fault, e := night.Fails(p, l(0, 2, 4)); e != api.OK || part != 0 || fault != api.NightShort {
		t.Error(part, fault, e)
	}
}

// No argument is changed, results share no memory, and two calls have equal results (R4, R8).
func TestMemory(t *testing.T) {
	p := planP()
	choice, lengths := l(0, 1, 2, 4), l(40, 20, 60, 60)
	text, _ := night.Print(p)
	for i, call := range []func() any{
		func() any { y, _ := night.Choices(calmPlan()); return y },
		func() any { y, _ := night.Choices(calmPlan()); return y[0] },
		func() any { y, _ := night.Choices(calmPlan()); return y[1] },
		func() any { y, _, _ := night.Programme(p); return y },
		func() any { _, y, _ := night.Programme(p); return y },
		func() any { y, _ := night.Ends(p); return y },
		func() any { y, _ := night.Played(p); return y },
		func() any { y, _ := night.Surest(calmPlan()); return y },
		func() any { y, _ := night.Misses(p); return y },
		func() any { y, _ := night.Read(text); return y.Scenes },
	} {
		one, other := call(), call()
		before := fmt.Sprint(other)
		if fmt.Sprint(one) != before || reflect.ValueOf(one).Len() == 0 {
			t.Error(i, one, other)
		}
		for n := range reflect.ValueOf(one).Len() {
			reflect.ValueOf(one).Index(n).Set(reflect.Zero(reflect.TypeOf(one).Elem()))
		}
		if fmt.Sprint(other) != before || fmt.Sprint(call()) != before {
			t.Error(i, "results share memory", other)
		}
	}
	all, _ := night.Choices(restPlan())
	want := fmt.Sprint(all[1:])
	all[0] = append(all[0][:0], 7, 7, 7)
	if fmt.Sprint(all[1:]) != want {
		t.Error("choices share memory", all)
	}
	for range 2 {
		night.Check(p)
		night.Allowed(p, choice)
		night.Fits(p, choice, lengths)
		night.Can(p, choice)
		night.Times(p, 1)
		night.Lengths(p, 1)
		night.Sure(p, choice)
		night.Fails(p, choice)
		night.Longer(p, 4)
		night.Starts(p)
		night.Print(p)
	}
	if !samePlan(p, planP()) || !slices.Equal(choice, l(0, 1, 2, 4)) || !slices.Equal(lengths, l(40, 20, 60, 60)) {
		t.Error("an argument was changed")
	}
}

// P0.1: the longest searches end.
func TestGreatest(t *testing.T) {
	p := with(greatestPlan(), func(p *api.NightPlan) {
		p.Begin = 0
		p.Stars = [2]api.Span{span(0, 30), span(0, 30)}
	})
	if y, e := night.Choices(p); e != api.OK || len(y) != 64 || len(y[0]) != 10 || len(y[63]) != 4 {
		t.Error(len(y), e)
	}
	choice, lengths, e := night.Programme(p)
	if e != api.OK || !slices.Equal(choice, l(0, 1, 2, 3, 4, 5, 6, 7, 8, 9)) || !slices.Equal(lengths, l(1, 1, 1, 1, 1, 1, 144, 240, 240, 240)) {
		t.Error(choice, lengths, e)
	}
	if y, e := night.Starts(p); e != api.OK || y != span(0, 30) {
		t.Error(y, e)
	}
	// no choice has to be longer, and none can
	far := with(p, func(p *api.NightPlan) { p.Stars[1] = span(31, 60) })
	for n := range far.Scenes {
		if y, e := night.Longer(far, n); e != api.ErrNone || y != 0 {
			t.Error(n, y, e)
		}
	}
	// all hours are met, but by no choice alone
	wide := plan(0, span(0, 0), span(15, 15), span(200, 230))
	for range 6 {
		wide.Scenes = append(wide.Scenes, battle(2, 5, 7))
	}
	wide.Scenes = append([]api.NightScene{scene(1, 15, 15)}, append(wide.Scenes, scene(2, 185, 187))...)
	if y, e := night.Misses(wide); e != api.OK || !slices.Equal(y, l(0, 15, 203)) {
		t.Error(y, e)
	}
	wide.Scenes[7].Most = 189
	if y, e := night.Misses(wide); e != api.ErrNone || y != nil {
		t.Error(y, e)
	}
	if y, e := night.Surest(wide); e != api.ErrNone || y != nil {
		t.Error(y, e)
	}
}
