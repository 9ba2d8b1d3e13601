package hide_test

import (
	"fmt"
	"reflect"
	"slices"
	"strings"
	"testing"

	"kelir/api"
	"kelir/hide"
)

// P7.1 to P7.8, P0.1: each function returns ErrArg, and nothing else, for a register that is not as defined.
func TestBadRegisters(t *testing.T) {
	for i, r := range badRegisters() {
		find := slices.Repeat(l(-1), len(r.Kinds))
		for name, call := range map[string]func() []any{
			"Warped":   func() []any { y, e := hide.Warped(r, 0, rates(1000, 1000)); return []any{y, e} },
			"Changes":  func() []any { y, e := hide.Changes(r, 0, find, rates(1000, 1000)); return []any{y, e} },
			"Fewest":   func() []any { y, e := hide.Fewest(r, 0, find); return []any{y, e} },
			"Named":    func() []any { y, z, e := hide.Named(r, 0, find); return []any{y, z, e} },
			"Who":      func() []any { y, e := hide.Who(r, find); return []any{y, e} },
			"Rates":    func() []any { y, z, e := hide.Rates(r, 0, find); return []any{y, z, e} },
			"Joints":   func() []any { y, e := hide.Joints(r, 0, find); return []any{y, e} },
			"Expected": func() []any { y, e := hide.Expected(r, 0, find, 0); return []any{y, e} },
			"Next":     func() []any { y, z, e := hide.Next(r, find); return []any{y, z, e} },
			"Twins":    func() []any { y, z, e := hide.Twins(r); return []any{y, z, e} },
			"Enough":   func() []any { y, e := hide.Enough(r, nil); return []any{y, e} },
			"Plan":     func() []any { y, e := hide.Plan(r); return []any{y, e} },
			"Dries":    func() []any { y, e := hide.Dries(r, 0, find, 0, 1); return []any{y, e} },
			"Print":    func() []any { y, e := hide.Print(r); return []any{y, e} },
		} {
			y := call()
			last := len(y) - 1
			if y[last] != api.ErrArg {
				t.Error(i, name, r, y)
			}
			for _, v := range y[:last] {
				if !isZero(v) {
					t.Error(i, name, r, y)
				}
			}
		}
	}
}

// eased returns a register with a greater Off, a greater Mends or a wider span of rates.
func eased(g interface{ IntN(int) int }, r api.HideRegister) api.HideRegister {
	return with(r, func(r *api.HideRegister) {
		switch g.IntN(6) {
		case 0:
			r.Off++
		case 1:
			r.Mends++
		case 2:
			r.Along.Low -= 1 + g.IntN(5)
		case 3:
			r.Along.High += 1 + g.IntN(5)
		case 4:
			r.Across.Low -= 1 + g.IntN(5)
		default:
			r.Across.High += 1 + g.IntN(5)
		}
	})
}

// P7.9: with a greater Off, a greater Mends or a wider span of rates, a hide that may be the one still may.
func TestEased(t *testing.T) {
	g := random(51)
	some := met{}
	for range 3000 {
		r := anyRegister(g)
		find, easier := anyFind(g, r), eased(g, r)
		if hide.Check(easier) != api.OK {
			continue
		}
		y, e := hide.Who(r, find)
		z, f := hide.Who(easier, find)
		for n, w := range y {
			if w != never && (f != api.OK || z[n] == never) {
				t.Fatal(r, easier, find, y, z, f)
			}
		}
		some.note(e == api.OK, " ", slices.Equal(y, z))
	}
	some.atLeast(t, 20, "true true", "true false", "false true", "false false")
}

// P7.9: with a measure more that is taken, none may that could not be.
func TestOneMeasureMore(t *testing.T) {
	g := random(52)
	some := met{}
	for range 3000 {
		r := anyRegister(g)
		find := anyFind(g, r)
		less := slices.Clone(find)
		less[g.IntN(len(less))] = -1
		y, e := hide.Who(r, find)
		z, f := hide.Who(r, less)
		for n, w := range y {
			if w != never && (f != api.OK || z[n] == never) {
				t.Fatal(r, find, less, y, z, f)
			}
		}
		some.note(e == api.OK, " ", slices.Equal(y, z))
	}
	some.atLeast(t, 20, "true true", "true false", "false false")
}

// P0.7: the fewest measures that were changed are named, whatever rates somebody proposes.
func TestFewestNamed(t *testing.T) {
	g := random(53)
	some := met{}
	for range 1000 {
		r := randomRegister(g, sizes{6, 6, 500, 30, 20})
		find, n := anyFind(g, r), g.IntN(len(r.Hides))
		named, x, e := hide.Named(r, n, find)
		fewest, _ := hide.Fewest(r, n, find)
		some.note(int(e))
		if e == api.OK {
			if y, f := hide.Changes(r, n, find, x); f != api.OK || !slices.Equal(y, named) || len(named) != fewest || fewest > r.Mends {
				t.Fatal(r, n, find, named, x, y, f)
			}
		} else if fewest <= r.Mends {
			t.Fatal(r, n, find, fewest, e)
		}
		for range 10 {
			if y, f := hide.Changes(r, n, find, randomRates(g, r)); f != api.OK || len(y) < fewest {
				t.Fatal(r, n, find, y, fewest, f)
			}
		}
	}
	some.atLeast(t, 50, "0", "5")
}

// Nil and empty lists are the same (R3).
func TestNilAndEmpty(t *testing.T) {
	one, two := stiff(1, along, 3), stiff(1, along, 3, 9)
	for i, want := range []bool{true, false} {
		r := []api.HideRegister{one, two}[i]
		a, e := hide.Enough(r, nil)
		b, f := hide.Enough(r, l())
		if a != want || b != want || e != api.OK || f != api.OK {
			t.Error(i, a, b, e, f)
		}
	}
	for _, find := range ll(nil, l()) {
		if _, e := hide.Who(one, find); e != api.ErrArg {
			t.Error(e)
		}
	}
	for _, r := range []api.HideRegister{with(one, func(r *api.HideRegister) { r.Kinds, r.Hides = nil, ll(nil) }), with(one, func(r *api.HideRegister) { r.Kinds, r.Hides = []api.HideKind{}, ll(l()) }), with(one, func(r *api.HideRegister) { r.Hides = nil }), with(one, func(r *api.HideRegister) { r.Hides = ll() })} {
		if e := hide.Check(r); e != api.ErrArg {
			t.Error(r, e)
		}
	}
}

// roomy returns a list with room behind it, in which there is something.
func roomy(list []int) []int {
	return append(slices.Clone(list), 7, 7, 7)[:len(list)]
}

func roomyRegister() api.HideRegister {
	return with(registerS(), func(r *api.HideRegister) {
		r.Kinds = append(r.Kinds, 7, 7, 7)[:len(r.Kinds)]
		for n, sizes := range r.Hides {
			r.Hides[n] = roomy(sizes)
		}
		r.Hides = append(r.Hides, nil, nil)[:len(r.Hides)]
	})
}

// behind returns the lists of a register with what is behind them.
func behind(r api.HideRegister) string {
	out := fmt.Sprint(r.Kinds[:cap(r.Kinds)], r.Hides[:cap(r.Hides)])
	for _, sizes := range r.Hides {
		out += fmt.Sprint(sizes[:cap(sizes)])
	}
	return out
}

// No argument is changed, results share no memory, and two calls have equal results (R4, R8).
func TestMemory(t *testing.T) {
	r := roomyRegister()
	before := behind(r)
	text, _ := hide.Print(r)
	find, open, measures := roomy(findF()), roomy(l(-1, 205, -1)), roomy(l(0, 2))
	mended := with(r, func(r *api.HideRegister) { r.Mends = 1 })
	for i, call := range []func() any{
		func() any { y, _ := hide.Warped(r, 0, rates(1000, 1000)); return y },
		func() any { y, _ := hide.Changes(r, 2, find, rates(980, 1020)); return y },
		func() any { y, _, _ := hide.Named(mended, 1, find); return y },
		func() any { y, _ := hide.Who(r, find); return y },
		func() any { y, _ := hide.Joints(r, 0, find); return y },
		func() any { y, _ := hide.Plan(r); return y },
		func() any { y, _ := hide.Read(text); return y.Kinds },
		func() any { y, _ := hide.Read(text); return y.Hides },
		func() any { y, _ := hide.Read(text); return y.Hides[1] },
	} {
		first, second := call(), call()
		want := fmt.Sprint(second)
		if fmt.Sprint(first) != want || reflect.ValueOf(first).Len() == 0 {
			t.Error(i, first, second)
		}
		for n := range reflect.ValueOf(first).Len() {
			reflect.ValueOf(first).Index(n).SetZero()
		}
		if fmt.Sprint(second) != want || fmt.Sprint(call()) != want {
			t.Error(i, "results share memory", second)
		}
	}
	for range 2 {
		hide.Check(r)
		hide.Fewest(r, 1, find)
		hide.Rates(r, 0, open)
		hide.Expected(r, 1, open, 0)
		hide.Next(r, open)
		hide.Twins(r)
		hide.Enough(r, measures)
		hide.Dries(r, 0, open, 3, 2)
	}
	if !sameRegister(r, registerS()) || behind(r) != before {
		t.Error("the register was changed", r)
	}
	for i, list := range ll(find, open, measures) {
		want := ll(findF(), l(-1, 205, -1), l(0, 2))[i]
		if !slices.Equal(list[:len(want)+3], append(want, 7, 7, 7)) {
			t.Error("an argument was changed", list)
		}
	}
}

// The lists of one result share no memory (R4).
func TestMemoryOfOne(t *testing.T) {
	text, _ := hide.Print(registerR())
	r, _ := hide.Read(text)
	_ = append(r.Hides[0], 9, 9, 9)
	_ = append(r.Hides[1][:0], 100, 210, 100, 9)
	_ = append(r.Kinds, 9, 9, 9)
	r.Hides[2][0]--
	r.Hides[2][0]++
	if !sameRegister(r, registerR()) {
		t.Error("lists of a register share memory", r)
	}
}

// P0.1: the longest searches end.
func TestGreatest(t *testing.T) {
	r, m := greatestRegister(), mixedRegister()
	find := slices.Repeat(l(645), 6)
	if y, e := hide.Who(r, find); e != api.OK || slices.ContainsFunc(y, func(w api.HideWord) bool { return w != may }) {
		t.Error(y, e)
	}
	if y, x, e := hide.Named(r, 5, find); e != api.OK || len(y) > 0 || x != rates(1260, 1280) {
		t.Error(y, x, e)
	}
	if at, n, e := hide.Next(r, slices.Repeat(l(-1), 6)); e != api.OK || at != 0 || n != 6 {
		t.Error(at, n, e)
	}
	if a, b, e := hide.Twins(r); e != api.OK || a != 0 || b != 1 {
		t.Error(a, b, e)
	}
	if y, e := hide.Plan(r); e != api.ErrNone || len(y) > 0 {
		t.Error(y, e)
	}
	if y, e := hide.Plan(m); e != api.OK || !slices.Equal(y, l(0)) {
		t.Error(y, e)
	}
	// the last two hides differ in the last measure alone, and are told by none
	for measure := range 6 {
		m.Hides[5][measure] = m.Hides[4][measure]
	}
	m.Hides[5][5] += 10
	if y, e := hide.Plan(m); e != api.ErrNone || len(y) > 0 {
		t.Error(y, e)
	}
	m.Mends = 2
	if at, n, e := hide.Next(m, slices.Repeat(l(-1), 6)); e != api.OK || at != 0 || n != 6 {
		t.Error(at, n, e)
	}
	if text, e := hide.Print(m); e != api.OK || !strings.HasPrefix(text, "register 5 2 1260 1300 1260 1300\nmeasures along along along across across across\n") {
		t.Error(text, e)
	}
}
