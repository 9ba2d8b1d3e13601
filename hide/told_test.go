package hide_test

import (
	"math"
	"slices"
	"testing"

	"kelir/api"
	"kelir/hide"
)

// alike is the register s with its first hide once more.
func alike() api.HideRegister {
	return with(registerS(), func(r *api.HideRegister) { r.Hides[2] = l(100, 200, 100) })
}

// equal has so many hides that are all the same, of so many measures.
func equal(hides, measures, mends int) api.HideRegister {
	return api.HideRegister{Kinds: slices.Repeat([]api.HideKind{along}, measures), Hides: slices.Repeat(ll(slices.Repeat(l(9), measures)), hides), Along: sp(1000, 1000), Across: sp(1000, 1000), Off: 1, Mends: mends}
}

// lasts has two hides of six measures that differ from the given one on, and so many mends.
func lasts(from, mends int) api.HideRegister {
	return with(equal(2, 6, mends), func(r *api.HideRegister) {
		r.Hides = ll(slices.Repeat(l(9), 6), slices.Repeat(l(9), 6))
		for measure := from; measure < 6; measure++ {
			r.Hides[1][measure] = 12
		}
	})
}

// P7.6: two hides that can be mistaken by all measures, and the fewest measures that tell all.
func TestTwinsAndPlan(t *testing.T) {
	for i, x := range []struct {
		r    api.HideRegister
		a, b int
		e    api.Errno
		plan []int
		f    api.Errno
	}{
		{registerR(), 0, 1, api.OK, nil, api.ErrNone}, {registerS(), 0, 0, api.ErrNone, l(0, 1), api.OK}, {alike(), 0, 2, api.OK, nil, api.ErrNone}, {stiff(1, across, 10, 13), 0, 0, api.ErrNone, l(0), api.OK}, {stiff(1, across, 10, 12), 0, 1, api.OK, nil, api.ErrNone}, {stiff(5, along, 10, 20), 0, 1, api.OK, nil, api.ErrNone}, {stiff(5, along, 10, 21), 0, 0, api.ErrNone, l(0), api.OK},
		{stiff(1, along, 10, 20, 30, 28), 2, 3, api.OK, nil, api.ErrNone}, {stiff(1, along, 10, 20, 30, 10, 20), 0, 3, api.OK, nil, api.ErrNone}, {stiff(1, along, 10, 20, 30, 40, 50, 50), 4, 5, api.OK, nil, api.ErrNone}, {stiff(1, along, 10, 20, 30, 20, 10), 0, 4, api.OK, nil, api.ErrNone}, {stiff(1, along, 50, 40, 30, 20, 10, 1), 0, 0, api.ErrNone, l(0), api.OK},
		// one hide alone needs no measures
		{stiff(1, along, 10), 0, 0, api.ErrNone, nil, api.OK}, {equal(1, 6, 2), 0, 0, api.ErrNone, nil, api.OK}, {equal(6, 6, 0), 0, 1, api.OK, nil, api.ErrNone},
		// with a mend of each hide two measures may differ, with two mends four
		{lasts(3, 0), 0, 0, api.ErrNone, l(3), api.OK}, {lasts(5, 0), 0, 0, api.ErrNone, l(5), api.OK}, {lasts(3, 1), 0, 0, api.ErrNone, l(3, 4, 5), api.OK}, {lasts(2, 1), 0, 0, api.ErrNone, l(2, 3, 4), api.OK}, {lasts(4, 1), 0, 1, api.OK, nil, api.ErrNone}, {lasts(1, 2), 0, 0, api.ErrNone, l(1, 2, 3, 4, 5), api.OK}, {lasts(0, 2), 0, 0, api.ErrNone, l(0, 1, 2, 3, 4), api.OK}, {lasts(2, 2), 0, 1, api.OK, nil, api.ErrNone},
	} {
		if a, b, e := hide.Twins(x.r); e != x.e || a != x.a || b != x.b {
			t.Error(i, a, b, e)
		}
		if y, e := hide.Plan(x.r); e != x.f || !slices.Equal(y, x.plan) {
			t.Error(i, y, e)
		}
	}
}

// P7.6: whether measures are enough.
func TestEnough(t *testing.T) {
	r, s := registerR(), registerS()
	for i, x := range []struct {
		r        api.HideRegister
		measures []int
		want     bool
	}{
		{s, l(0, 1), true}, {s, l(0, 1, 2), true}, {s, l(1), false}, {s, l(0), false}, {s, l(0, 2), false}, {s, l(1, 2), false}, {s, nil, false}, {r, l(0, 1, 2), false}, {stiff(1, across, 10, 13), l(0), true}, {stiff(1, across, 10, 13), nil, false}, {stiff(1, across, 10, 12), l(0), false}, {stiff(1, across, 10), nil, true}, {stiff(1, across, 10), l(0), true}, {lasts(3, 1), l(3, 4, 5), true}, {lasts(3, 1), l(0, 1, 2, 3, 4), false}, {lasts(3, 1), l(0, 3, 4, 5), true},
	} {
		if is, e := hide.Enough(x.r, x.measures); e != api.OK || is != x.want {
			t.Error(i, is, e)
		}
	}
	for i, measures := range ll(l(3), l(-1), l(1, 0), l(0, 0), l(0, 1, 1), l(0, 1, 3), l(-1, 0), l(0, 2, 1), l(2, 1), l(0, 1, 2, 3), l(0, 1, 2, 2), l(math.MinInt), l(math.MaxInt), l(0, math.MaxInt), slices.Repeat(l(0), 1000)) {
		if is, e := hide.Enough(s, measures); e != api.ErrArg || is {
			t.Error(i, is, e)
		}
	}
}

// slowBoth reports whether for some find in which just these measures are taken both hides may be the one; readings up to the greatest one are tried.
func slowBoth(r api.HideRegister, one, other int, measures []int, greatest int) bool {
	r = with(r, func(r *api.HideRegister) { r.Hides = ll(r.Hides[one], r.Hides[other]) })
	find := slices.Repeat(l(-1), len(r.Kinds))
	var both func(at int) bool
	both = func(at int) bool {
		if len(slowMay(r, find)) < 2 {
			return false
		}
		if at == len(measures) {
			return true
		}
		defer func() { find[measures[at]] = -1 }()
		for reading := range greatest + 1 {
			find[measures[at]] = reading
			if both(at + 1) {
				return true
			}
		}
		return false
	}
	return both(0)
}

// slowShare reports whether some reading of a measure is right for both hides.
func slowShare(r api.HideRegister, one, other, measure, greatest int, x, y api.HideRates) bool {
	for reading := range greatest + 1 {
		if !slowOff(r, reading, lengthOf(r, one, measure, x)) && !slowOff(r, reading, lengthOf(r, other, measure, y)) {
			return true
		}
	}
	return false
}

// slowMistaken reports whether by some rates of both hides few enough measures have no reading that is right for both.
func slowMistaken(r api.HideRegister, one, other int, measures []int, greatest int) bool {
	for _, x := range slowRates(r) {
		for _, y := range slowRates(r) {
			without := 0
			for _, measure := range measures {
				if !slowShare(r, one, other, measure, greatest, x, y) {
					without++
				}
			}
			if without <= 2*r.Mends {
				return true
			}
		}
	}
	return false
}

// slowTwins returns the first two hides that can be mistaken, and whether there are any.
func slowTwins(r api.HideRegister, mistaken func(one, other int) bool) (int, int, bool) {
	for one := range r.Hides {
		for other := one + 1; other < len(r.Hides); other++ {
			if mistaken(one, other) {
				return one, other, true
			}
		}
	}
	return 0, 0, false
}

func randomMeasures(g interface{ IntN(int) int }, r api.HideRegister) []int {
	var out []int
	for measure := range r.Kinds {
		if g.IntN(3) > 0 {
			out = append(out, measure)
		}
	}
	return out
}

// P7.6: Twins and Enough follow the definition, for small hides and all finds up to readings that are changes of all hides.
func TestTwinsAreDefined(t *testing.T) {
	g := random(21)
	some := met{}
	for range 600 {
		r := randomRegister(g, sizes{3, 3, 9, 7, 2})
		if len(r.Kinds) < 3 {
			r.Mends = min(r.Mends, g.IntN(2))
		}
		r.Off = 1
		all := l(0, 1, 2)[:len(r.Kinds)]
		for _, measures := range ll(all, randomMeasures(g, r)) {
			a, b, twins := slowTwins(r, func(one, other int) bool { return slowBoth(r, one, other, measures, 14) })
			if is, e := hide.Enough(r, measures); e != api.OK || is == twins {
				t.Fatal(r, measures, is, e)
			}
			some.note(twins, len(measures))
			if len(measures) != len(all) {
				continue
			}
			y, z, e := hide.Twins(r)
			if (e == api.OK) != twins || y != a || z != b || e != api.OK && e != api.ErrNone {
				t.Fatal(r, y, z, e, a, b)
			}
		}
	}
	some.atLeast(t, 10, "true 0", "true 1", "true 2", "true 3", "false 1", "false 2", "false 3")
}

// P7.6: Twins, Enough and Plan follow what the definition says of readings that are right for two hides.
func TestPlanIsDefined(t *testing.T) {
	g := random(22)
	some := met{}
	for range 600 {
		r := randomRegister(g, sizes{5, 4, 50, 12, 2})
		var plan []int
		found := false
		for _, measures := range slowLists(len(r.Kinds)) {
			_, _, twins := slowTwins(r, func(one, other int) bool { return slowMistaken(r, one, other, measures, 70) })
			if is, e := hide.Enough(r, measures); e != api.OK || is == twins {
				t.Fatal(r, measures, is, e)
			}
			if !twins && !found {
				plan, found = measures, true
			}
		}
		y, e := hide.Plan(r)
		if !found && (e != api.ErrNone || len(y) > 0) || found && (e != api.OK || !slices.Equal(y, plan)) {
			t.Fatal(r, y, plan, e)
		}
		some.note(found, len(plan))
	}
	some.atLeast(t, 5, "false 0", "true 0", "true 1", "true 2", "true 3")
}

// slowLists returns all lists of measures, shorter ones first, and those of one length in lexicographic order.
func slowLists(measures int) [][]int {
	out := ll(nil)
	for n := 0; n < len(out); n++ {
		for measure := range measures {
			if len(out[n]) == 0 || measure > out[n][len(out[n])-1] {
				out = append(out, append(slices.Clone(out[n]), measure))
			}
		}
	}
	return out
}

// P7.6: if no two hides can be mistaken, each find in which all measures are taken is that of one hide at most.
func TestNoTwins(t *testing.T) {
	g := random(23)
	some := met{}
	for range 3000 {
		r := randomRegister(g, sizes{6, 4, 100, 30, 3})
		if _, _, e := hide.Twins(r); e != api.ErrNone {
			some.note("twins")
			continue
		}
		find := anyFind(g, r)
		for measure, reading := range find {
			if reading == -1 {
				find[measure] = rightReading(g, r, 0, measure, randomRates(g, r))
			}
		}
		y, e := hide.Who(r, find)
		some.note("told ", e, " ", len(r.Hides) > 1)
		if e != api.OK && e != api.ErrRule || slices.Contains(y, may) {
			t.Fatal(r, find, y, e)
		}
	}
	some.atLeast(t, 50, "twins", "told 0 true", "told 7 true")
}

// P7.6: no fewer measures that somebody proposes are enough, and more than enough are so, too.
func TestFewerMeasures(t *testing.T) {
	g := random(24)
	some := met{}
	for range 300 {
		r := randomRegister(g, sizes{6, 4, 100, 30, 5})
		plan, e := hide.Plan(r)
		for range 5 {
			measures := randomMeasures(g, r)
			is, f := hide.Enough(r, measures)
			some.note(is)
			if f != api.OK || is && (e != api.OK || len(measures) < len(plan)) {
				t.Fatal(r, plan, measures, is, e, f)
			}
			wider := slices.Compact(slices.Sorted(slices.Values(append(measures, g.IntN(len(r.Kinds))))))
			if more, f := hide.Enough(r, wider); f != api.OK || is && !more {
				t.Fatal(r, measures, wider, f)
			}
		}
	}
	some.atLeast(t, 100, "true", "false")
}
