package hide_test

import (
	"math"
	"slices"
	"testing"

	"kelir/api"
	"kelir/hide"
)

// P7.1: registers that are as defined, and others.
func TestCheck(t *testing.T) {
	for i, r := range []api.HideRegister{registerR(), registerS(), smallRegister(), greatestRegister(), mixedRegister(), stiff(5, across, 500, 1, 500, 1, 250, 3), with(registerR(), func(r *api.HideRegister) { r.Along, r.Across = sp(700, 740), sp(700, 700) }), with(registerR(), func(r *api.HideRegister) { r.Along, r.Across = sp(1300, 1300), sp(1299, 1300) })} {
		if e := hide.Check(r); e != api.OK {
			t.Error(i, e)
		}
	}
	for i, r := range badRegisters() {
		if e := hide.Check(r); e != api.ErrArg {
			t.Error(i, r, e)
		}
	}
}

// P7.1: the readings with which measures are not changed, also where lengths are whole, and where they are little.
func TestWarped(t *testing.T) {
	small := api.HideRegister{Kinds: []api.HideKind{along, across, across}, Hides: ll(l(1, 2, 500)), Along: sp(700, 740), Across: sp(1260, 1300), Off: 5}
	for i, x := range []struct {
		r     api.HideRegister
		hide  int
		rates api.HideRates
		want  []api.Span
	}{
		{registerR(), 0, rates(980, 1020), []api.Span{sp(97, 99), sp(195, 197), sp(101, 103)}}, {registerR(), 1, rates(1000, 1000), []api.Span{sp(99, 101), sp(209, 211), sp(99, 101)}}, {registerR(), 2, rates(985, 999), []api.Span{sp(108, 109), sp(216, 217), sp(99, 100)}}, {registerR(), 2, rates(1001, 1001), []api.Span{sp(110, 111), sp(220, 221), sp(100, 101)}},
		{smallRegister(), 0, rates(1000, 1000), []api.Span{sp(0, 2)}}, {small, 0, rates(700, 1300), []api.Span{sp(0, 5), sp(0, 7), sp(645, 655)}}, {small, 0, rates(740, 1260), []api.Span{sp(0, 5), sp(0, 7), sp(625, 635)}},
		{with(small, func(r *api.HideRegister) { r.Off = 1 }), 0, rates(700, 1300), []api.Span{sp(0, 1), sp(2, 3), sp(649, 651)}},
	} {
		if y, e := hide.Warped(x.r, x.hide, x.rates); e != api.OK || !slices.Equal(y, x.want) {
			t.Error(i, y, e)
		}
	}
	for _, n := range badNumbers() {
		if y, e := hide.Warped(registerR(), n, rates(1000, 1000)); e != api.ErrArg || len(y) > 0 {
			t.Error(n, y, e)
		}
	}
	for _, x := range badRates() {
		if y, e := hide.Warped(registerR(), 0, x); e != api.ErrArg || len(y) > 0 {
			t.Error(x, y, e)
		}
	}
}

// P7.1: Warped and Changes follow the definition, for each reading.
func TestWarpedIsDefined(t *testing.T) {
	g := random(1)
	for range 300 {
		r := anyRegister(g)
		r.Off = 1 + g.IntN(5)
		n, x := g.IntN(len(r.Hides)), randomRates(g, r)
		spans, e := hide.Warped(r, n, x)
		if e != api.OK || len(spans) != len(r.Kinds) {
			t.Fatal(r, spans, e)
		}
		for measure, span := range spans {
			find := slices.Repeat(l(-1), len(r.Kinds))
			for reading := range 1001 {
				find[measure] = reading
				off := slowOff(r, reading, lengthOf(r, n, measure, x))
				y, e := hide.Changes(r, n, find, x)
				if e != api.OK || (len(y) > 0) != off || off == (span.Low <= reading && reading <= span.High) {
					t.Fatal(r, n, x, measure, reading, span, y, e)
				}
			}
		}
	}
}

// P7.1: all measures that are changed, in increasing order; those that are not taken are not.
func TestChanges(t *testing.T) {
	for i, x := range []struct {
		hide  int
		find  []int
		rates api.HideRates
		want  []int
	}{
		{1, findF(), rates(1000, 1000), l(1)}, {2, findF(), rates(980, 1020), l(0, 1, 2)}, {0, findF(), rates(1000, 1000), nil}, {0, findF(), rates(990, 990), l(1)}, {0, findG(), rates(1020, 980), l(1)}, {0, findN(), rates(980, 980), nil},
		{0, l(0, -1, 0), rates(1000, 1000), l(0, 2)}, {0, l(1000, 1000, 1000), rates(1000, 1000), l(0, 1, 2)}, {0, l(0, 0, 0), rates(1000, 1000), l(0, 1, 2)}, {0, l(99, 199, 99), rates(1000, 1000), nil}, {0, l(101, 201, 101), rates(1000, 1000), nil}, {0, l(98, 202, 101), rates(1000, 1000), l(0, 1)},
		// 100.1 and 200.2 are the lengths: 99 is more than 1 off, and 101 is not
		{0, l(99, 201, 100), rates(1001, 1000), l(0)}, {0, l(101, 199, 100), rates(1001, 1000), l(1)},
	} {
		if y, e := hide.Changes(registerR(), x.hide, x.find, x.rates); e != api.OK || !slices.Equal(y, x.want) {
			t.Error(i, y, e)
		}
	}
	for _, n := range badNumbers() {
		if y, e := hide.Changes(registerR(), n, findF(), rates(1000, 1000)); e != api.ErrArg || len(y) > 0 {
			t.Error(n, y, e)
		}
	}
	for _, find := range badFinds() {
		if y, e := hide.Changes(registerR(), 0, find, rates(1000, 1000)); e != api.ErrArg || len(y) > 0 {
			t.Error(find, y, e)
		}
	}
	for _, x := range badRates() {
		if y, e := hide.Changes(registerR(), 0, findF(), x); e != api.ErrArg || len(y) > 0 {
			t.Error(x, y, e)
		}
	}
}

// P7.1: Changes follows the definition.
func TestChangesAreDefined(t *testing.T) {
	g := random(2)
	some := met{}
	for range 5000 {
		r := anyRegister(g)
		find, n, x := anyFind(g, r), g.IntN(len(r.Hides)), randomRates(g, r)
		want := slowChanges(r, n, find, x)
		some.note(len(want))
		if y, e := hide.Changes(r, n, find, x); e != api.OK || !slices.Equal(y, want) {
			t.Fatal(r, n, find, x, y, want, e)
		}
	}
	some.atLeast(t, 20, "0", "1", "2", "3", "4", "5")
}

// P7.2: the fewest changes, which they are, and the first rates with just these.
func TestFewestAndNamed(t *testing.T) {
	r, s := registerR(), registerS()
	two := with(r, func(r *api.HideRegister) { r.Mends = 2 })
	for i, x := range []struct {
		r      api.HideRegister
		hide   int
		find   []int
		fewest int
		named  []int
		rates  api.HideRates
		e      api.Errno
	}{
		{r, 0, findF(), 0, nil, rates(995, 990), api.OK}, {r, 1, findF(), 1, l(1), rates(990, 990), api.OK}, {r, 2, findF(), 2, nil, rates(0, 0), api.ErrNone}, {s, 0, findF(), 0, nil, rates(995, 990), api.OK}, {s, 1, findF(), 1, nil, rates(0, 0), api.ErrNone},
		{r, 0, findG(), 1, l(1), rates(1020, 980), api.OK}, {r, 1, findG(), 1, l(0), rates(996, 980), api.OK}, {r, 0, findN(), 0, nil, rates(980, 980), api.OK}, {s, 2, findN(), 0, nil, rates(980, 980), api.OK},
		{r, 2, l(500, 500, 500), 3, nil, rates(0, 0), api.ErrNone}, {two, 2, l(500, 500, 500), 3, nil, rates(0, 0), api.ErrNone}, {r, 2, l(500, 500, -1), 2, nil, rates(0, 0), api.ErrNone}, {two, 2, l(500, 500, -1), 2, l(0, 1), rates(980, 980), api.OK}, {two, 2, l(500, 500, 100), 2, l(0, 1), rates(980, 990), api.OK},
		{two, 2, findF(), 2, l(0, 1), rates(980, 990), api.OK},
		// the first or the second measure is changed, with other rates each: the first one is named, whether its rates come first or not
		{r, 0, l(102, 196, 100), 1, l(0), rates(980, 990), api.OK}, {r, 0, l(98, 204, 100), 1, l(0), rates(1015, 990), api.OK},
	} {
		if n, e := hide.Fewest(x.r, x.hide, x.find); e != api.OK || n != x.fewest {
			t.Error(i, n, e)
		}
		if y, z, e := hide.Named(x.r, x.hide, x.find); e != x.e || z != x.rates || !slices.Equal(y, x.named) {
			t.Error(i, y, z, e)
		}
	}
	check := func(n int, find []int) {
		if y, e := hide.Fewest(r, n, find); e != api.ErrArg || y != 0 {
			t.Error(n, find, y, e)
		}
		if y, z, e := hide.Named(r, n, find); e != api.ErrArg || len(y) > 0 || z != rates(0, 0) {
			t.Error(n, find, y, z, e)
		}
	}
	for _, n := range badNumbers() {
		check(n, findF())
	}
	for _, find := range badFinds() {
		check(0, find)
	}
}

// P7.2: Fewest and Named follow the definition; with no other rates there are fewer changes.
func TestFewestAndNamedAreDefined(t *testing.T) {
	g := random(3)
	some := met{}
	for range 3000 {
		r := anyRegister(g)
		if g.IntN(3) == 0 {
			r = randomRegister(g, sizes{4, 3, 400, 5, 16})
		}
		find, n := anyFind(g, r), g.IntN(len(r.Hides))
		fewest, lists := math.MaxInt, 0
		var named []int
		var first api.HideRates
		for _, x := range slowRates(r) {
			changed := slowChanges(r, n, find, x)
			if len(changed) < fewest || len(changed) == fewest && slices.Compare(changed, named) < 0 {
				if len(changed) == fewest {
					lists++
				}
				fewest, named, first = len(changed), changed, x
			}
		}
		if y, e := hide.Fewest(r, n, find); e != api.OK || y != fewest {
			t.Fatal(r, n, find, y, fewest, e)
		}
		y, x, e := hide.Named(r, n, find)
		some.note(fewest, fewest <= r.Mends)
		if fewest > r.Mends {
			if e != api.ErrNone || len(y) > 0 || x != rates(0, 0) {
				t.Fatal(r, n, find, y, x, e)
			}
			continue
		}
		some.note("later lists ", lists)
		if e != api.OK || !slices.Equal(y, named) || x != first {
			t.Fatal(r, n, find, y, named, x, first, e)
		}
	}
	some.atLeast(t, 20, "0 true", "1 true", "1 false", "2 true", "2 false", "3 false", "4 false", "later lists 0")
	some.atLeast(t, 10, "later lists 1")
}
