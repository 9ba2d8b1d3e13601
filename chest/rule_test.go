package chest_test

import (
	"fmt"
	"math"
	"reflect"
	"slices"
	"testing"

	"kelir/api"
	"kelir/chest"
)

// P8.1 to P8.9, P0.1: each function returns ErrArg, and nothing else, for a list that is not as defined.
func TestBadLists(t *testing.T) {
	for i, c := range badLists() {
		packing := make([]int, len(c.Figures))
		for name, call := range map[string]func() []any{
			"Wrong":  func() []any { y, e := chest.Wrong(c, packing); return []any{y, e} },
			"Best":   func() []any { y, z, e := chest.Best(c); return []any{y, z, e} },
			"Count":  func() []any { y, e := chest.Count(c); return []any{y, e} },
			"Known":  func() []any { y, e := chest.Known(c); return []any{y, e} },
			"Groups": func() []any { y, e := chest.Groups(c); return []any{y, e} },
			"Out":    func() []any { y, e := chest.Out(c, packing, nil); return []any{y, e} },
			"Ease":   func() []any { y, z, e := chest.Ease(c); return []any{y, z, e} },
			"Later":  func() []any { y, z, e := chest.Later(c, packing, figure(1, 1, 0)); return []any{y, z, e} },
			"Chests": func() []any { y, z, e := chest.Chests(c); return []any{y, z, e} },
			"Clash":  func() []any { y, e := chest.Clash(c); return []any{y, e} },
			"Room":   func() []any { y, e := chest.Room(c); return []any{y, e} },
			"Print":  func() []any { y, e := chest.Print(c); return []any{y, e} },
		} {
			y := call()
			last := len(y) - 1
			if y[last] != api.ErrArg {
				t.Error(i, name, y)
			}
			for _, v := range y[:last] {
				if !isZero(v) {
					t.Error(i, name, y)
				}
			}
		}
	}
}

// P8.10: with a greater Room or a greater Depth, a right packing stays right, and chests are no more.
func TestEased(t *testing.T) {
	g := random(41)
	some := met{}
	for range 600 {
		c := anyList(g, 6)
		eased := with(c, func(eased *api.ChestList) {
			if g.IntN(2) == 0 {
				eased.Room = min(c.Room+1+g.IntN(5), 20)
			} else {
				eased.Depth = min(c.Depth+1+g.IntN(2), 5)
			}
		})
		all := slowPackings(c)
		for _, packing := range all {
			if y, e := chest.Wrong(eased, packing); e != api.ErrNone || y != (api.ChestFault{}) {
				t.Fatal(c, eased, packing, y, e)
			}
		}
		n, _ := chest.Count(c)
		m, e := chest.Count(eased)
		if e != api.OK || m < n || n != len(all) {
			t.Fatal(c, eased, n, m, e)
		}
		some.note("more ", m > n)
		_, n, e = chest.Best(c)
		_, m, f := chest.Best(eased)
		if e == api.OK && (f != api.OK || m > n) {
			t.Fatal(c, eased, n, m, f)
		}
		_, n, e = chest.Chests(c)
		_, m, f = chest.Chests(eased)
		if e == api.OK && (f != api.OK || m > n) {
			t.Fatal(c, eased, n, m, f)
		}
		some.note("fewer ", m < n)
	}
	some.atLeast(t, 20, "more true", "more false", "fewer true", "fewer false")
}

// P8.10: of figures that can be packed, any some can be, with no more layers, chests and Room.
func TestFewerFigures(t *testing.T) {
	g := random(42)
	some := met{}
	for range 400 {
		c := anyList(g, 6)
		_, layers, e := chest.Best(c)
		some.note(e)
		if e != api.OK {
			continue
		}
		room, _ := chest.Room(c)
		for _, figures := range allGroups(len(c.Figures)) {
			fewer := only(c, figures)
			if y, n, e := chest.Best(fewer); e != api.OK || n > layers || !slowRight(fewer, y) {
				t.Fatal(fewer, y, n, layers, e)
			}
			if y, n, e := chest.Chests(fewer); e != api.OK || n != min(1, len(figures)) || slices.ContainsFunc(y, func(chest int) bool { return chest != 0 }) {
				t.Fatal(fewer, y, n, e)
			}
			if y, e := chest.Clash(fewer); e != api.ErrNone || len(y) > 0 {
				t.Fatal(fewer, y, e)
			}
			if n, e := chest.Room(fewer); e != api.OK || n > room {
				t.Fatal(fewer, n, room, e)
			}
		}
	}
	some.atLeast(t, 50, "0", "5")
}

// P0.8: the packings that are returned are right, and no figure of them lies below one of a lesser rank, or one that is wanted later.
func TestPackingsAreRight(t *testing.T) {
	g := random(43)
	some := met{}
	for range 600 {
		c := anyList(g, 6)
		best, _, e := chest.Best(c)
		ease, _, f := chest.Ease(c)
		some.note(e)
		if e != f {
			t.Fatal(c, e, f)
		}
		if e != api.OK {
			continue
		}
		for _, packing := range ll(best, ease) {
			if y, e := chest.Wrong(c, packing); e != api.ErrNone || !slowRight(c, packing) {
				t.Fatal(c, packing, y, e)
			}
		}
		if y, _, e := chest.Later(c, best, figure(1, 1, 5)); e == api.OK && !slowRight(with(c, func(c *api.ChestList) { c.Figures = append(c.Figures, figure(1, 1, 5)) }), y) {
			t.Fatal(c, best, y)
		}
	}
	some.atLeast(t, 50, "0", "5")
}

// Nil and empty lists are the same (R3).
func TestNilAndEmpty(t *testing.T) {
	for i, c := range []api.ChestList{{Room: 3, Depth: 2}, {Room: 3, Depth: 2, Figures: []api.ChestFigure{}}} {
		for _, none := range ll(nil, l()) {
			if y, e := chest.Wrong(c, none); e != api.ErrNone || y != (api.ChestFault{}) {
				t.Error(i, y, e)
			}
			if y, e := chest.Out(c, none, none); e != api.OK || len(y) > 0 {
				t.Error(i, y, e)
			}
			if y, n, e := chest.Later(c, none, figure(3, 2, 1)); e != api.OK || n != 0 || !slices.Equal(y, l(0)) {
				t.Error(i, y, n, e)
			}
			if y, e := chest.Wrong(listC(), none); e != api.ErrArg || y != (api.ChestFault{}) {
				t.Error(i, y, e)
			}
		}
		if y, e := chest.Print(c); e != api.OK || y != sealed("chest 3 2") {
			t.Error(i, y, e)
		}
		if n, e := chest.Count(c); e != api.OK || n != 1 {
			t.Error(i, n, e)
		}
		if y, e := chest.Known(c); e != api.OK || len(y) > 0 {
			t.Error(i, y, e)
		}
		if n, e := chest.Room(c); e != api.OK || n != 0 {
			t.Error(i, n, e)
		}
	}
}

// roomy returns a list with room behind it, in which there is something.
func roomy(list []int) []int {
	return append(slices.Clone(list), 7, 7, 7)[:len(list)]
}

func roomyList(c api.ChestList) api.ChestList {
	return with(c, func(c *api.ChestList) {
		c.Figures = append(c.Figures, figure(7, 7, 7), figure(7, 7, 7))[:len(c.Figures)]
	})
}

// behind returns the figures of a list with what is behind them.
func behind(c api.ChestList) string { return fmt.Sprint(c.Figures[:cap(c.Figures)]) }

// No argument is changed, results share no memory, and two calls have equal results (R4, R8).
func TestMemory(t *testing.T) {
	c, d := roomyList(listC()), roomyList(listD())
	beforeC, beforeD := behind(c), behind(d)
	text, _ := chest.Print(c)
	packing, figures := roomy(l(0, 0, 1, 0, 2)), roomy(l(1, 2))
	for i, call := range []func() any{
		func() any { y, _, _ := chest.Best(c); return y },
		func() any { y, _ := chest.Known(c); return y },
		func() any { y, _ := chest.Groups(c); return y },
		func() any { y, _ := chest.Out(c, packing, figures); return y },
		func() any { y, _, _ := chest.Ease(c); return y },
		func() any { y, _, _ := chest.Later(c, packing, figure(3, 2, 2)); return y },
		func() any { y, _, _ := chest.Later(c, packing, figure(5, 3, 0)); return y },
		func() any { y, _, _ := chest.Chests(d); return y },
		func() any { y, _ := chest.Clash(d); return y },
		func() any { y, _ := chest.Read(text); return y.Figures },
	} {
		first, second := call(), call()
		want := fmt.Sprint(second)
		if fmt.Sprint(first) != want || reflect.ValueOf(first).Len() == 0 {
			t.Error(i, first, second)
		}
		for n := range reflect.ValueOf(first).Len() {
			reflect.ValueOf(first).Index(n).SetZero()
		}
		if fmt.Sprint(second) != want || fmt.Sprint(call()) != want {
			t.Error(i, "results share memory", second)
		}
	}
	for range 2 {
		chest.Check(c)
		chest.Wrong(c, packing)
		chest.Count(c)
		chest.Chests(c)
		chest.Clash(c)
		chest.Room(c)
		chest.Best(d)
		chest.Room(d)
	}
	if !sameList(c, listC()) || behind(c) != beforeC || !sameList(d, listD()) || behind(d) != beforeD {
		t.Error("a list was changed", c, d)
	}
	if !slices.Equal(packing[:8], l(0, 0, 1, 0, 2, 7, 7, 7)) || !slices.Equal(figures[:5], l(1, 2, 7, 7, 7)) {
		t.Error("an argument was changed", packing, figures)
	}
}

// P0.1: arguments of any kind have a result, which is an error or as defined.
func TestAnyArguments(t *testing.T) {
	g := random(44)
	numbers := l(math.MinInt, -1, 0, 0, 1, 1, 1, 2, 2, 3, 4, 5, 6, math.MaxInt)
	some := func(most int) []int {
		var out []int
		for range g.IntN(most + 1) {
			out = append(out, numbers[g.IntN(len(numbers))])
		}
		return out
	}
	seen := met{}
	for range 20000 {
		n := func() int { return numbers[g.IntN(len(numbers))] }
		c := anyList(g, 3)
		if g.IntN(2) == 0 {
			c = api.ChestList{Room: n(), Depth: n()}
			for range g.IntN(8) {
				c.Figures = append(c.Figures, figure(n(), n(), n()))
			}
		}
		packing, figures, more := some(len(c.Figures)), some(3), figure(n(), n(), n())
		good := chest.Check(c)
		_, e := chest.Wrong(c, packing)
		_, f := chest.Out(c, packing, figures)
		later, moved, h := chest.Later(c, packing, more)
		seen.note("Wrong ", e)
		seen.note("Out ", f)
		seen.note("Later ", h)
		if good != api.OK && (e != api.ErrArg || f != api.ErrArg || h != api.ErrArg) {
			t.Fatal(c, e, f, h)
		}
		if e == api.ErrArg && (f != api.ErrArg || h != api.ErrArg) || e == api.OK && (f == api.OK || h == api.OK) {
			t.Fatal(c, packing, e, f, h)
		}
		if h != api.OK && (len(later) > 0 || moved != 0) {
			t.Fatal(c, packing, more, later, moved, h)
		}
	}
	seen.atLeast(t, 50, "Wrong 0", "Wrong 2", "Wrong 5", "Out 0", "Out 2", "Out 7", "Later 0", "Later 2", "Later 5", "Later 7")
}

// P0.1: the longest searches end.
func TestGreatest(t *testing.T) {
	c := greatestList()
	if n, e := chest.Count(c); e != api.OK || n != 3963 {
		t.Error(n, e)
	}
	if y, e := chest.Groups(c); e != api.OK || !slices.Equal(y, l(0, 1, 2, 3, 4, 5)) {
		t.Error(y, e)
	}
	five := alike(20, 5, 1, 1, 1, 1, 1)
	if y, n, e := chest.Later(five, l(4, 3, 2, 1, 0), figure(1, 1, 0)); e != api.OK || n != 0 || !slices.Equal(y, l(4, 3, 2, 1, 0, 0)) {
		t.Error(y, n, e)
	}
	five.Room = 1
	if y, n, e := chest.Later(five, l(4, 3, 2, 1, 0), figure(1, 1, 0)); e != api.ErrNone || n != 0 || len(y) > 0 {
		t.Error(y, n, e)
	}
	nines := alike(8, 5, 9, 9, 9, 9, 9, 9)
	if y, n, e := chest.Chests(nines); e != api.ErrNone || n != 0 || len(y) > 0 {
		t.Error(y, n, e)
	}
	if n, e := chest.Room(nines); e != api.OK || n != 18 {
		t.Error(n, e)
	}
}
