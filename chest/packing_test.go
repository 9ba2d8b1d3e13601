package chest_test

import (
	"fmt"
	"slices"
	"testing"

	"kelir/api"
	"kelir/chest"
)

// P8.1: lists with the least and the most of everything, and lists that are not as defined.
func TestCheck(t *testing.T) {
	for i, c := range []api.ChestList{listC(), listD(), smallList(), emptyList(), greatestList(), longestList(), {Room: 20, Depth: 5, Figures: []api.ChestFigure{}}, list(1, 1, 9, 5, 5), list(1, 1, 1, 1, 0), list(20, 1, 9, 1, 0), list(1, 5, 1, 5, 0), list(1, 1, 1, 1, 5), list(7, 2, slices.Repeat(l(9, 1, 3), 6)...)} {
		if e := chest.Check(c); e != api.OK {
			t.Error(i, c, e)
		}
	}
	for i, c := range badLists() {
		if e := chest.Check(c); e != api.ErrArg {
			t.Error(i, e)
		}
	}
}

// P8.1, P0.8: the chapter's examples, and each rule before those that follow it.
func TestWrong(t *testing.T) {
	two := func(room, depth, rank, evening, other, otherEvening int) api.ChestList {
		return list(room, depth, 5, rank, evening, 5, other, otherEvening)
	}
	wide := with(listC(), func(c *api.ChestList) { c.Room = 20 })
	for i, x := range []struct {
		c       api.ChestList
		packing []int
		want    api.ChestFault
		e       api.Errno
	}{
		{listC(), l(0, 0, 0, 0, 1), fault(api.ChestFull, 0, 0), api.OK}, {listC(), l(0, 0, 1, 1, 2), fault(api.ChestRank, 1, 3), api.OK}, {listC(), l(0, 1, 1, 0, 2), fault(api.ChestEvening, 3, 1), api.OK}, {listC(), l(0, 0, 1, 0, 2), api.ChestFault{}, api.ErrNone}, {listC(), l(0, 1, 1, 1, 2), api.ChestFault{}, api.ErrNone},
		{emptyList(), nil, api.ChestFault{}, api.ErrNone}, {smallList(), l(0), api.ChestFault{}, api.ErrNone}, {smallList(), l(1), fault(api.ChestGap, 0, 0), api.OK}, {list(4, 1, 5, 1, 0), l(0), fault(api.ChestFull, 0, 0), api.OK}, {list(5, 1, 5, 1, 0), l(0), api.ChestFault{}, api.ErrNone},
		// layers that have too much
		{alike(5, 3, 3, 3, 3, 3), l(0, 0, 1, 1), fault(api.ChestFull, 0, 0), api.OK}, {alike(5, 3, 3, 3, 3, 3), l(2, 1, 2, 0), fault(api.ChestFull, 2, 0), api.OK}, {alike(6, 3, 3, 3, 3, 3), l(1, 1, 0, 0), api.ChestFault{}, api.ErrNone}, {alike(5, 5, 3, 3, 3, 3), l(4, 4, 3, 3), fault(api.ChestFull, 3, 0), api.OK}, {listC(), l(0, 0, 2, 0, 2), fault(api.ChestFull, 2, 0), api.OK},
		// layers without figures
		{alike(9, 5, 1, 1), l(0, 4), fault(api.ChestGap, 1, 0), api.OK}, {alike(9, 5, 1, 1), l(4, 4), fault(api.ChestGap, 0, 0), api.OK}, {alike(9, 5, 1, 1, 1), l(3, 0, 1), fault(api.ChestGap, 2, 0), api.OK}, {alike(9, 5, 1, 1), l(1, 0), api.ChestFault{}, api.ErrNone}, {alike(9, 5, 1, 1), l(0, 0), api.ChestFault{}, api.ErrNone}, {alike(9, 5, 1, 1, 1), l(4, 2, 0), fault(api.ChestGap, 1, 0), api.OK},
		// ranks and evenings
		{two(9, 2, 1, 0, 2, 0), l(0, 1), fault(api.ChestRank, 0, 1), api.OK}, {two(9, 2, 1, 0, 2, 0), l(1, 0), api.ChestFault{}, api.ErrNone}, {two(9, 2, 2, 0, 1, 0), l(1, 0), fault(api.ChestRank, 1, 0), api.OK}, {two(9, 2, 1, 3, 1, 2), l(0, 1), fault(api.ChestEvening, 0, 1), api.OK}, {two(9, 2, 1, 3, 1, 2), l(1, 0), api.ChestFault{}, api.ErrNone}, {two(9, 2, 1, 3, 1, 4), l(1, 0), fault(api.ChestEvening, 1, 0), api.OK}, {two(10, 2, 1, 3, 2, 1), l(0, 0), api.ChestFault{}, api.ErrNone},
		// one rule before another one
		{two(4, 3, 1, 3, 2, 1), l(0, 2), fault(api.ChestFull, 0, 0), api.OK}, {two(5, 3, 1, 3, 2, 1), l(0, 2), fault(api.ChestGap, 1, 0), api.OK}, {two(5, 3, 1, 3, 2, 1), l(0, 1), fault(api.ChestRank, 0, 1), api.OK}, {two(5, 3, 2, 3, 2, 1), l(0, 1), fault(api.ChestEvening, 0, 1), api.OK}, {two(5, 3, 1, 3, 2, 1), l(1, 0), api.ChestFault{}, api.ErrNone}, {two(9, 3, 2, 3, 1, 1), l(1, 2), fault(api.ChestGap, 0, 0), api.OK}, {two(4, 3, 2, 3, 2, 3), l(1, 2), fault(api.ChestFull, 1, 0), api.OK}, {list(9, 3, 1, 4, 3, 1, 4, 2, 1, 4, 2, 1, 3, 2, 1, 4, 2), l(0, 1, 2, 1, 2), fault(api.ChestRank, 3, 2), api.OK},
		// the least figure that lies above, and then the least one below it
		{wide, l(1, 1, 0, 1, 0), fault(api.ChestRank, 2, 0), api.OK}, {wide, l(0, 1, 1, 1, 0), fault(api.ChestRank, 4, 1), api.OK}, {list(20, 3, 1, 3, 0, 1, 1, 0, 1, 2, 0, 1, 2, 0, 1, 1, 0, 1, 5, 0), l(2, 1, 2, 2, 0, 0), fault(api.ChestRank, 1, 0), api.OK}, {list(20, 3, 1, 1, 0, 1, 1, 4, 1, 1, 2, 1, 1, 3, 1, 1, 5), l(2, 1, 2, 2, 0), fault(api.ChestEvening, 1, 0), api.OK}, {list(20, 3, 1, 1, 4, 1, 1, 4, 1, 1, 2, 1, 1, 3, 1, 1, 5), l(2, 1, 2, 2, 0), fault(api.ChestEvening, 1, 2), api.OK},
	} {
		if y, e := chest.Wrong(x.c, x.packing); e != x.e || y != x.want {
			t.Error(i, y, e)
		}
	}
	for i, packing := range badPackings() {
		if y, e := chest.Wrong(listC(), packing); e != api.ErrArg || y != (api.ChestFault{}) {
			t.Error(i, y, e)
		}
	}
	if y, e := chest.Wrong(emptyList(), l(0)); e != api.ErrArg || y != (api.ChestFault{}) {
		t.Error(y, e)
	}
}

// P8.1: all packings of generated lists; there is no fault just if a packing is right.
func TestWrongOfAll(t *testing.T) {
	g := random(1)
	some := met{}
	for range 150 {
		c := anyList(g, 5)
		for _, packing := range allLists(c.Depth, len(c.Figures)) {
			y, e := chest.Wrong(c, packing)
			faults := slowFaults(c, packing)
			if right := slowRight(c, packing); right != (len(faults) == 0) || right != (e == api.ErrNone) {
				t.Fatal(c, packing, right, faults, y, e)
			}
			some.note(y.Rule)
			if len(faults) == 0 {
				faults = append(faults, api.ChestFault{})
			} else if e != api.OK {
				t.Fatal(c, packing, y, e)
			}
			if y != faults[0] {
				t.Fatal(c, packing, y, faults)
			}
		}
	}
	some.atLeast(t, 100, "0", "1", "2", "3", "4")
}

// P8.2: the chapter's examples, figures that are alike, and lists that have no right packing.
func TestBestAndCount(t *testing.T) {
	for i, x := range []struct {
		c      api.ChestList
		best   []int
		layers int
		e      api.Errno
		count  int
	}{
		{listC(), l(0, 0, 1, 0, 2), 3, api.OK, 2}, {listD(), nil, 0, api.ErrNone, 0}, {emptyList(), nil, 0, api.OK, 1}, {list(20, 5), nil, 0, api.OK, 1}, {smallList(), l(0), 1, api.OK, 1}, {greatestList(), l(0, 0, 0, 0, 0, 0), 1, api.OK, 1 + 62 + 540 + 1560 + 1800},
		{alike(1, 2, 1, 1), l(0, 1), 2, api.OK, 2}, {alike(1, 5, 1, 1), l(0, 1), 2, api.OK, 2}, {alike(1, 2, 1, 1, 1), nil, 0, api.ErrNone, 0}, {alike(1, 5, 1, 1, 1, 1, 1), l(0, 1, 2, 3, 4), 5, api.OK, 120}, {alike(4, 5, 5), nil, 0, api.ErrNone, 0}, {alike(5, 5, 5), l(0), 1, api.OK, 1}, {alike(2, 3, 1, 1, 1, 1, 1, 1), l(0, 0, 1, 1, 2, 2), 3, api.OK, 90},
		// a packing with fewer layers comes later
		{alike(4, 3, 1, 2, 2, 3), l(0, 1, 1, 0), 2, api.OK, 26}, {alike(6, 2, 2, 3, 4, 3), l(0, 1, 0, 1), 2, api.OK, 2},
		// the chapter's rules against the order of numbers
		{list(9, 2, 5, 1, 1, 5, 1, 0), l(1, 0), 2, api.OK, 1}, {list(9, 2, 5, 1, 0, 5, 2, 0), l(1, 0), 2, api.OK, 1}, {list(9, 2, 5, 1, 0, 5, 2, 1), nil, 0, api.ErrNone, 0}, {list(10, 2, 5, 1, 0, 5, 2, 1), l(0, 0), 1, api.OK, 1}, {list(3, 5, 1, 1, 5, 1, 2, 4, 1, 3, 3, 1, 4, 2, 1, 5, 1), l(1, 1, 0, 0, 0), 2, api.OK, 13},
	} {
		if y, n, e := chest.Best(x.c); e != x.e || n != x.layers || !slices.Equal(y, x.best) {
			t.Error(i, y, n, e)
		}
		if n, e := chest.Count(x.c); e != api.OK || n != x.count {
			t.Error(i, n, e)
		}
	}
}

// P8.2: generated lists; no right packing has fewer layers.
func TestBestAndCountAreDefined(t *testing.T) {
	g := random(2)
	some := met{}
	for range 1000 {
		c := anyList(g, 6)
		all := slowPackings(c)
		if n, e := chest.Count(c); e != api.OK || n != len(all) {
			t.Fatal(c, n, len(all), e)
		}
		want, layers := slowBest(all, slowLayers)
		y, n, e := chest.Best(c)
		if len(all) == 0 {
			some.note("none")
			if e != api.ErrNone || n != 0 || len(y) > 0 {
				t.Fatal(c, y, n, e)
			}
			continue
		}
		some.note(layers, " first: ", slices.Equal(want, all[0]))
		if e != api.OK || n != layers || !slices.Equal(y, want) {
			t.Fatal(c, y, n, want, layers, e)
		}
	}
	some.atLeast(t, 10, "none", "0 first: true", "1 first: true", "2 first: true", "3 first: true", "2 first: false", "3 first: false")
}

// P8.3: the chapter's examples, and figures that have one layer, or one of several.
func TestKnownAndGroups(t *testing.T) {
	for i, x := range []struct {
		c      api.ChestList
		known  []api.Span
		groups []int
		e      api.Errno
	}{
		{listC(), []api.Span{sp(0, 0), sp(0, 1), sp(1, 1), sp(0, 1), sp(2, 2)}, l(0, 1, 2, 1, 3), api.OK}, {listD(), nil, nil, api.ErrRule}, {emptyList(), nil, nil, api.OK}, {smallList(), []api.Span{sp(0, 0)}, l(0), api.OK}, {alike(4, 5, 5), nil, nil, api.ErrRule}, {greatestList(), slices.Repeat([]api.Span{sp(0, 4)}, 6), l(0, 1, 2, 3, 4, 5), api.OK},
		{alike(6, 2, 1, 1), []api.Span{sp(0, 1), sp(0, 1)}, l(0, 1), api.OK}, {alike(6, 1, 1, 1, 1), slices.Repeat([]api.Span{sp(0, 0)}, 3), l(0, 0, 0), api.OK}, {alike(1, 3, 1, 1), []api.Span{sp(0, 1), sp(0, 1)}, l(0, 1), api.OK},
		// four figures go into two layers by pairs of sizes
		{alike(6, 2, 2, 3, 4, 3), slices.Repeat([]api.Span{sp(0, 1)}, 4), l(0, 1, 0, 1), api.OK},
		// two figures that must lie in one layer, with others of their rank or evening
		{list(20, 5, 1, 1, 0, 1, 2, 1), []api.Span{sp(0, 0), sp(0, 0)}, l(0, 0), api.OK}, {list(20, 2, 1, 2, 0, 1, 3, 1, 1, 1, 2), []api.Span{sp(0, 0), sp(0, 0), sp(0, 1)}, l(0, 0, 1), api.OK}, {list(20, 5, 1, 1, 2, 1, 3, 1, 1, 2, 0, 1, 4, 0), []api.Span{sp(0, 2), sp(0, 1), sp(0, 1), sp(0, 0)}, l(0, 1, 1, 2), api.OK},
	} {
		if y, e := chest.Known(x.c); e != x.e || !slices.Equal(y, x.known) {
			t.Error(i, y, e)
		}
		if y, e := chest.Groups(x.c); e != x.e || !slices.Equal(y, x.groups) {
			t.Error(i, y, e)
		}
	}
}

// slowSpan returns between which bounds the layer of a figure lies in some packings.
func slowSpan(all [][]int, n int) api.Span {
	var layers []int
	for _, packing := range all {
		layers = append(layers, packing[n])
	}
	return sp(slices.Min(layers), slices.Max(layers))
}

func slowTogether(all [][]int, n, m int) bool {
	for _, packing := range all {
		if packing[n] != packing[m] {
			return false
		}
	}
	return true
}

// P8.3: generated lists; each right packing lies within the bounds, which are met, and a group in one layer.
func TestKnownAndGroupsAreDefined(t *testing.T) {
	g := random(3)
	some := met{}
	for range 1000 {
		c := anyList(g, 6)
		all := slowPackings(c)
		known, e := chest.Known(c)
		groups, f := chest.Groups(c)
		if len(all) == 0 {
			some.note("none")
			if e != api.ErrRule || f != api.ErrRule || len(known)+len(groups) > 0 {
				t.Fatal(c, known, groups, e, f)
			}
			continue
		}
		if e != api.OK || f != api.OK || len(known) != len(c.Figures) || len(groups) != len(c.Figures) || !inTurn(groups) {
			t.Fatal(c, known, groups, e, f)
		}
		for n := range c.Figures {
			some.note(fmt.Sprint("wide ", known[n].High-known[n].Low))
			if known[n] != slowSpan(all, n) {
				t.Fatal(c, n, known)
			}
			for m := range c.Figures {
				same := groups[n] == groups[m]
				some.note("same ", same, " ", n != m && known[n] == known[m])
				if same != slowTogether(all, n, m) {
					t.Fatal(c, n, m, groups)
				}
			}
		}
	}
	some.atLeast(t, 20, "none", "wide 0", "wide 1", "wide 2", "wide 3", "same true true", "same false true", "same false false")
}
