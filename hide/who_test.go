package hide_test

import (
	"math"
	"slices"
	"testing"

	"kelir/api"
	"kelir/hide"
)

// P7.3: which hide it is, surely or maybe.
func TestWho(t *testing.T) {
	r, s, one := registerR(), registerS(), stiff(1, across, 10, 13)
	for i, x := range []struct {
		r    api.HideRegister
		find []int
		want []api.HideWord
		e    api.Errno
	}{
		{r, findF(), words(may, may, never), api.OK}, {s, findF(), words(surely, never, never), api.OK}, {s, findG(), nil, api.ErrRule}, {r, findG(), words(may, may, never), api.OK}, {r, findN(), words(may, may, may), api.OK}, {s, findN(), words(may, may, may), api.OK},
		{s, l(110, -1, -1), words(never, never, surely), api.OK}, {s, l(-1, 205, -1), words(may, may, never), api.OK}, {s, l(-1, -1, 0), nil, api.ErrRule}, {r, l(-1, -1, 0), words(may, may, may), api.OK}, {r, l(0, -1, 0), nil, api.ErrRule}, {r, l(1000, 1000, 1000), nil, api.ErrRule}, {s, l(-1, 220, -1), words(never, never, surely), api.OK}, {r, l(-1, 220, -1), words(may, may, may), api.OK},
		{one, l(-1), words(may, may), api.OK}, {one, l(11), words(surely, never), api.OK}, {one, l(12), words(never, surely), api.OK}, {one, l(20), nil, api.ErrRule}, {one, l(8), nil, api.ErrRule}, {stiff(1, along, 7), l(-1), words(surely), api.OK}, {stiff(1, along, 7), l(8), words(surely), api.OK}, {stiff(1, along, 7), l(9), nil, api.ErrRule},
	} {
		if y, e := hide.Who(x.r, x.find); e != x.e || !slices.Equal(y, x.want) {
			t.Error(i, y, e)
		}
	}
	for _, find := range badFinds() {
		if y, e := hide.Who(r, find); e != api.ErrArg || len(y) > 0 {
			t.Error(find, y, e)
		}
	}
}

func slowWho(r api.HideRegister, find []int) []api.HideWord {
	fit := slowMay(r, find)
	if len(fit) == 0 {
		return nil
	}
	out := slices.Repeat(words(never), len(r.Hides))
	for _, n := range fit {
		out[n] = may
		if len(fit) == 1 {
			out[n] = surely
		}
	}
	return out
}

// P7.3: Who follows the definition.
func TestWhoIsDefined(t *testing.T) {
	g := random(11)
	some := met{}
	for range 1500 {
		r := anyRegister(g)
		find := anyFind(g, r)
		want := slowWho(r, find)
		y, e := hide.Who(r, find)
		for _, w := range words(never, may, surely) {
			if slices.Contains(want, w) {
				some.note(int(w))
			}
		}
		if len(want) == 0 {
			some.note("none")
			if e != api.ErrRule || len(y) > 0 {
				t.Fatal(r, find, y, e)
			}
		} else if e != api.OK || !slices.Equal(y, want) {
			t.Fatal(r, find, y, want, e)
		}
	}
	some.atLeast(t, 50, "1", "2", "3", "none")
}

// P7.3, P0.7: whatever hide was lent, by whatever rates it warped, and whichever measures were changed, at most Mends, it may be the one.
func TestLent(t *testing.T) {
	g := random(12)
	some := met{}
	for range 3000 {
		r := randomRegister(g, sizes{6, 6, 500, 30, 8})
		r.Off = 1 + g.IntN(5)
		n := g.IntN(len(r.Hides))
		x := randomRates(g, r)
		find := lent(g, r, n, x, r.Mends)
		y, e := hide.Who(r, find)
		if e != api.OK || y[n] == never {
			t.Fatal(r, n, x, find, y, e)
		}
		some.note(int(y[n]))
		if fewest, e := hide.Fewest(r, n, find); e != api.OK || fewest > r.Mends {
			t.Fatal(r, n, x, find, fewest, e)
		}
	}
	some.atLeast(t, 100, "2", "3")
}

// P7.4: the bounds of what fits.
func TestRatesJointsAndExpected(t *testing.T) {
	r, s := registerR(), registerS()
	for i, x := range []struct {
		r      api.HideRegister
		hide   int
		find   []int
		a, b   api.Span
		joints []api.HideWord
		want   []api.Span
		e      api.Errno
	}{
		{r, 0, findF(), sp(990, 1010), sp(980, 1020), words(never, may, may), []api.Span{sp(98, 102), sp(197, 203), sp(97, 103)}, api.OK}, {r, 1, findF(), sp(990, 1010), sp(990, 1010), words(never, surely, never), []api.Span{sp(98, 102), sp(207, 213), sp(98, 102)}, api.OK}, {s, 0, findF(), sp(995, 1005), sp(990, 1010), words(never, never, never), []api.Span{sp(99, 101), sp(198, 202), sp(98, 102)}, api.OK},
		{r, 2, findN(), sp(980, 1020), sp(980, 1020), words(never, never, never), []api.Span{sp(107, 113), sp(215, 225), sp(97, 103)}, api.OK}, {r, 1, findG(), sp(996, 1020), sp(980, 1020), words(may, may, never), []api.Span{sp(99, 103), sp(209, 215), sp(97, 103)}, api.OK}, {r, 2, findF(), sp(0, 0), sp(0, 0), nil, nil, api.ErrNone}, {s, 1, findF(), sp(0, 0), sp(0, 0), nil, nil, api.ErrNone},
		{stiff(5, across, 3), 0, l(8), sp(1000, 1000), sp(1000, 1000), words(never), []api.Span{sp(0, 8)}, api.OK},
	} {
		if a, b, e := hide.Rates(x.r, x.hide, x.find); e != x.e || a != x.a || b != x.b {
			t.Error(i, a, b, e)
		}
		if y, e := hide.Joints(x.r, x.hide, x.find); e != x.e || !slices.Equal(y, x.joints) {
			t.Error(i, y, e)
		}
		for measure := range x.r.Kinds {
			want := sp(0, 0)
			if x.e == api.OK {
				want = x.want[measure]
			}
			if y, e := hide.Expected(x.r, x.hide, x.find, measure); e != x.e || y != want {
				t.Error(i, measure, y, e)
			}
		}
	}
}

// P7.4: arguments that are not as defined, also where the hide may not be the one.
func TestFitArguments(t *testing.T) {
	r := registerR()
	check := func(n int, find []int, measure int) {
		if y, e := hide.Expected(r, n, find, measure); e != api.ErrArg || y != sp(0, 0) {
			t.Error(n, find, measure, y, e)
		}
		if measure != 0 {
			return
		}
		if a, b, e := hide.Rates(r, n, find); e != api.ErrArg || a != sp(0, 0) || b != sp(0, 0) {
			t.Error(n, find, a, b, e)
		}
		if y, e := hide.Joints(r, n, find); e != api.ErrArg || len(y) > 0 {
			t.Error(n, find, y, e)
		}
	}
	for _, n := range badNumbers() {
		check(n, findF(), 0)
		check(0, findF(), n)
		check(2, findF(), n)
	}
	for _, find := range badFinds() {
		check(0, find, 0)
		check(2, find, 0)
	}
}

// slowExpected returns the least and the greatest reading with which a measure is not changed, with some of the rates.
func slowExpected(r api.HideRegister, n, measure int, fits []api.HideRates) api.Span {
	out := sp(math.MaxInt, 0)
	for reading := range 1001 {
		right := func(x api.HideRates) bool { return !slowOff(r, reading, lengthOf(r, n, measure, x)) }
		if slices.ContainsFunc(fits, right) {
			out = sp(min(out.Low, reading), reading)
		}
	}
	return out
}

func slowJoint(r api.HideRegister, n int, find []int, measure int, fits []api.HideRates) api.HideWord {
	is := map[bool]bool{}
	for _, x := range fits {
		is[slices.Contains(slowChanges(r, n, find, x), measure)] = true
	}
	switch {
	case !is[true]:
		return never
	case !is[false]:
		return surely
	}
	return may
}

// P7.4: Rates, Joints and Expected follow the definition; with whatever rates that fit, all is within their bounds.
func TestFitsAreDefined(t *testing.T) {
	g := random(13)
	some := met{}
	for range 1000 {
		r := anyRegister(g)
		find, n, measure := anyFind(g, r), g.IntN(len(r.Hides)), g.IntN(len(r.Kinds))
		fits := slowFits(r, n, find)
		a, b, e := hide.Rates(r, n, find)
		joints, f := hide.Joints(r, n, find)
		span, h := hide.Expected(r, n, find, measure)
		if e != f || e != h || (e == api.ErrNone) != (len(fits) == 0) {
			t.Fatal(r, n, find, fits, e, f, h)
		}
		if len(fits) == 0 {
			some.note("none")
			if a != sp(0, 0) || b != sp(0, 0) || len(joints) > 0 || span != sp(0, 0) {
				t.Fatal(r, n, find, a, b, joints, span)
			}
			continue
		}
		var alongs, acrosses []int
		for _, x := range fits {
			alongs, acrosses = append(alongs, x.Along), append(acrosses, x.Across)
		}
		if e != api.OK || a != sp(slices.Min(alongs), slices.Max(alongs)) || b != sp(slices.Min(acrosses), slices.Max(acrosses)) {
			t.Fatal(r, n, find, fits, a, b, e)
		}
		if a != r.Along || b != r.Across {
			some.note("fewer rates")
		}
		for m, w := range joints {
			some.note(int(w))
			if w != slowJoint(r, n, find, m, fits) {
				t.Fatal(r, n, find, joints)
			}
		}
		if len(joints) != len(r.Kinds) || span != slowExpected(r, n, measure, fits) {
			t.Fatal(r, n, find, measure, joints, span)
		}
	}
	some.atLeast(t, 50, "none", "fewer rates", "1", "2", "3")
}

// P7.5: the measure to take next, and how many hides are left at most.
func TestNext(t *testing.T) {
	r, s, one := registerR(), registerS(), stiff(1, across, 10, 13)
	for i, x := range []struct {
		r    api.HideRegister
		find []int
		next int
		many int
		e    api.Errno
	}{
		{r, findG(), 2, 2, api.OK}, {r, findN(), 0, 3, api.OK}, {s, findN(), 0, 2, api.OK}, {r, findF(), 0, 0, api.ErrNone}, {s, findF(), 0, 0, api.ErrNone},
		// no hide may be the one, whether all measures are taken or not
		{s, findG(), 0, 0, api.ErrRule}, {r, l(1000, 1000, 1000), 0, 0, api.ErrRule}, {one, l(20), 0, 0, api.ErrRule},
		{s, l(110, -1, -1), 1, 1, api.OK}, {s, l(-1, 205, -1), 0, 1, api.OK}, {one, l(-1), 0, 1, api.OK}, {one, l(11), 0, 0, api.ErrNone}, {stiff(1, across, 10, 12), l(-1), 0, 2, api.OK}, {stiff(1, across, 10, 13, 12), l(-1), 0, 2, api.OK}, {stiff(1, across, 10, 11, 12), l(-1), 0, 3, api.OK}, {stiff(1, across, 10, 10, 10, 10), l(-1), 0, 4, api.OK},
		// a later measure leaves fewer
		{with(s, func(r *api.HideRegister) { r.Hides = ll(l(100, 100, 100), l(100, 101, 120), l(100, 120, 140)) }), findN(), 2, 1, api.OK}, {with(s, func(r *api.HideRegister) { r.Hides = ll(l(100, 100, 100), l(100, 120, 120)) }), findN(), 1, 1, api.OK},
		// one more measure can still be changed, until one was
		{with(r, func(r *api.HideRegister) { r.Hides = ll(l(100, 100, 100), l(120, 120, 120)) }), findN(), 0, 2, api.OK}, {with(r, func(r *api.HideRegister) { r.Hides = ll(l(100, 100, 100), l(120, 120, 120)) }), l(110, -1, -1), 1, 1, api.OK}, {with(r, func(r *api.HideRegister) { r.Hides = ll(l(100, 100, 100), l(120, 120, 120)) }), l(100, -1, -1), 1, 2, api.OK},
	} {
		if at, n, e := hide.Next(x.r, x.find); e != x.e || at != x.next || n != x.many {
			t.Error(i, at, n, e)
		}
	}
	for _, find := range badFinds() {
		if at, n, e := hide.Next(r, find); e != api.ErrArg || at != 0 || n != 0 {
			t.Error(find, at, n, e)
		}
	}
}

// slowLeft returns how many hides may be the one after a measure is taken, at most.
func slowLeft(r api.HideRegister, find []int, measure, greatest int) int {
	most := 0
	for reading := range greatest + 1 {
		taken := slices.Clone(find)
		taken[measure] = reading
		most = max(most, len(slowMay(r, taken)))
	}
	return most
}

// P7.5: Next follows the definition, for each reading up to some that are changes of all hides; of few registers for each reading that there is.
func TestNextIsDefined(t *testing.T) {
	g := random(14)
	some := met{}
	for i := range 1500 {
		s, greatest := sizes{5, 4, 40, 6, 2}, 70
		if i%50 == 0 {
			s, greatest = sizes{2, 3, 500, 15, 1}, 1000
		}
		r := randomRegister(g, s)
		find := anyFind(g, r)
		for range 2 {
			find[g.IntN(len(find))] = -1
		}
		at, n, e := hide.Next(r, find)
		if len(slowMay(r, find)) == 0 {
			some.note("rule")
			if e != api.ErrRule || at != 0 || n != 0 {
				t.Fatal(r, find, at, n, e)
			}
			continue
		}
		next, fewest := -1, math.MaxInt
		for measure, reading := range find {
			if reading != -1 {
				continue
			}
			if n := slowLeft(r, find, measure, greatest); n < fewest {
				next, fewest = measure, n
			}
		}
		some.note(next, " ", fewest < len(slowMay(r, find)))
		if e != api.OK || at != next || n != fewest {
			t.Fatal(r, find, at, n, next, fewest, e)
		}
	}
	some.atLeast(t, 10, "rule", "0 true", "0 false", "1 true", "2 true")
}

// P7.7: the least and the greatest number of days.
func TestDries(t *testing.T) {
	r, s := registerR(), registerS()
	wide := with(smallRegister(), func(r *api.HideRegister) { r.Along, r.Across = sp(1300, 1300), sp(700, 740) })
	for i, x := range []struct {
		r          api.HideRegister
		hide       int
		find       []int
		near, step int
		want       api.Span
		e          api.Errno
	}{
		{r, 0, findF(), 5, 2, sp(0, 8), api.OK}, {s, 0, findF(), 0, 1, sp(0, 10), api.OK}, {r, 1, findG(), 0, 100, sp(0, 1), api.OK}, {r, 0, findG(), 0, 7, sp(3, 3), api.OK}, {r, 0, findG(), 20, 7, sp(0, 0), api.OK}, {r, 0, findG(), 19, 7, sp(1, 1), api.OK}, {r, 0, findG(), 6, 7, sp(2, 2), api.OK}, {r, 0, findG(), 5, 7, sp(3, 3), api.OK}, {r, 2, findF(), 5, 2, sp(0, 0), api.ErrNone}, {s, 1, findF(), 0, 1, sp(0, 0), api.ErrNone},
		{wide, 0, l(-1), 0, 1, sp(300, 300), api.OK}, {wide, 0, l(-1), 300, 1, sp(0, 0), api.OK}, {wide, 0, l(-1), 299, 100, sp(1, 1), api.OK}, {wide, 0, l(-1), 0, 100, sp(3, 3), api.OK}, {with(wide, func(r *api.HideRegister) { r.Along = sp(990, 1010) }), 0, l(-1), 0, 1, sp(260, 300), api.OK}, {with(wide, func(r *api.HideRegister) { r.Along = sp(990, 1010) }), 0, l(-1), 250, 3, sp(4, 17), api.OK}, {smallRegister(), 0, l(-1), 0, 1, sp(0, 0), api.OK},
	} {
		if y, e := hide.Dries(x.r, x.hide, x.find, x.near, x.step); e != x.e || y != x.want {
			t.Error(i, y, e)
		}
	}
	check := func(n int, find []int, near, step int) {
		if y, e := hide.Dries(r, n, find, near, step); e != api.ErrArg || y != sp(0, 0) {
			t.Error(n, find, near, step, y, e)
		}
	}
	for _, n := range badNumbers() {
		check(n, findF(), 0, 1)
	}
	for _, find := range badFinds() {
		check(0, find, 0, 1)
	}
	for _, n := range l(-1, 301, math.MinInt, math.MaxInt) {
		check(0, findF(), n, 1)
		check(2, findF(), n, 1)
	}
	for _, n := range l(-1, 0, 101, math.MinInt, math.MaxInt) {
		check(0, findF(), 0, n)
		check(2, findF(), 0, n)
	}
	for _, x := range ll(l(0, 1), l(300, 1), l(0, 100), l(300, 100)) {
		if _, e := hide.Dries(r, 0, findF(), x[0], x[1]); e != api.OK {
			t.Error(x, e)
		}
	}
}

// slowDays plays days until both rates are near.
func slowDays(x api.HideRates, near, step int) int {
	nearer := func(rate int) int {
		if rate < 1000 {
			return min(rate+step, 1000)
		}
		return max(rate-step, 1000)
	}
	off := func(rate int) bool { return rate > 1000+near || rate < 1000-near }
	days := 0
	for off(x.Along) || off(x.Across) {
		x = rates(nearer(x.Along), nearer(x.Across))
		days++
	}
	return days
}

// P7.7: Dries follows the definition, day by day.
func TestDriesIsDefined(t *testing.T) {
	g := random(15)
	some := met{}
	for range 2000 {
		r := anyRegister(g)
		find, n := anyFind(g, r), g.IntN(len(r.Hides))
		near, step := g.IntN(301), 1+g.IntN(100)
		if g.IntN(2) == 0 {
			near, step = g.IntN(5), 1+g.IntN(3)
		}
		want := sp(math.MaxInt, 0)
		for _, x := range slowFits(r, n, find) {
			days := slowDays(x, near, step)
			want = sp(min(want.Low, days), max(want.High, days))
		}
		y, e := hide.Dries(r, n, find, near, step)
		if want.Low > want.High {
			some.note("none")
			if e != api.ErrNone || y != sp(0, 0) {
				t.Fatal(r, n, find, near, step, y, e)
			}
			continue
		}
		some.note(want.Low == want.High, want.Low == 0)
		if e != api.OK || y != want {
			t.Fatal(r, n, find, near, step, y, want, e)
		}
	}
	some.atLeast(t, 50, "none", "true true", "true false", "false true", "false false")
}
