package chest_test

import (
	"slices"
	"testing"

	"kelir/api"
	"kelir/chest"
)

// P8.4: the chapter's examples, and errors in their order.
func TestOut(t *testing.T) {
	layered := alike(2, 4, 1, 1, 1, 1, 1, 1)
	for i, x := range []struct {
		c                      api.ChestList
		packing, figures, want []int
		e                      api.Errno
	}{
		{listC(), l(0, 0, 1, 0, 2), l(2), l(0, 1, 3), api.OK}, {listC(), l(0, 0, 1, 0, 2), l(0, 1), nil, api.OK}, {listC(), l(0, 0, 1, 0, 2), l(0, 4), l(1, 2, 3), api.OK}, {listC(), l(0, 1, 1, 1, 2), l(1, 2), l(0), api.OK}, {listC(), l(0, 1, 1, 1, 2), l(0), nil, api.OK}, {listC(), l(0, 1, 1, 1, 2), l(4), l(0, 1, 2, 3), api.OK}, {listC(), l(0, 1, 1, 1, 2), l(0, 1, 2, 3, 4), nil, api.OK}, {listC(), l(0, 1, 1, 1, 2), l(0, 1, 2, 3), nil, api.OK}, {listC(), l(0, 1, 1, 1, 2), l(0, 2, 3, 4), l(1), api.OK},
		{listC(), l(0, 0, 1, 0, 2), nil, nil, api.OK}, {listC(), l(0, 0, 1, 0, 2), l(), nil, api.OK}, {emptyList(), nil, nil, nil, api.OK}, {layered, l(3, 2, 2, 1, 0, 0), l(1), l(3, 4, 5), api.OK}, {layered, l(3, 2, 2, 1, 0, 0), l(1, 3), l(4, 5), api.OK}, {layered, l(3, 2, 2, 1, 0, 0), l(0, 3), l(1, 2, 4, 5), api.OK}, {layered, l(3, 2, 2, 1, 0, 0), l(3, 5), l(4), api.OK}, {layered, l(3, 2, 2, 1, 0, 0), l(4), nil, api.OK},
		// a packing that is not right, with figures and without
		{listC(), l(0, 0, 1, 1, 2), l(2), nil, api.ErrRule}, {listC(), l(0, 0, 1, 1, 2), nil, nil, api.ErrRule}, {listC(), l(0, 1, 1, 0, 2), l(4), nil, api.ErrRule}, {listC(), l(0, 0, 0, 0, 1), l(4), nil, api.ErrRule}, {alike(9, 3, 1, 1), l(0, 2), l(1), nil, api.ErrRule}, {listC(), l(0, 0, 1, 1, 2), l(5), nil, api.ErrArg}, {listC(), l(0, 0, 1, 1, 2), l(1, 0), nil, api.ErrArg}, {emptyList(), nil, l(0), nil, api.ErrArg}, {emptyList(), l(0), nil, nil, api.ErrArg},
	} {
		if y, e := chest.Out(x.c, x.packing, x.figures); e != x.e || !slices.Equal(y, x.want) {
			t.Error(i, y, e)
		}
	}
	for i, packing := range badPackings() {
		if y, e := chest.Out(listC(), packing, l(2)); e != api.ErrArg || len(y) > 0 {
			t.Error(i, y, e)
		}
	}
	for i, figures := range badNumbers() {
		if y, e := chest.Out(listC(), l(0, 0, 1, 0, 2), figures); e != api.ErrArg || len(y) > 0 {
			t.Error(i, y, e)
		}
	}
}

// P8.4: the chapter's example, and lists with evenings of which none, or more than one, has trouble.
func TestEase(t *testing.T) {
	for i, x := range []struct {
		c       api.ChestList
		ease    []int
		trouble int
		e       api.Errno
	}{
		{listC(), l(0, 1, 1, 1, 2), 5, api.OK}, {listD(), nil, 0, api.ErrNone}, {emptyList(), nil, 0, api.OK}, {smallList(), l(0), 0, api.OK}, {greatestList(), l(0, 0, 0, 0, 0, 0), 0, api.OK}, {alike(4, 5, 5), nil, 0, api.ErrNone},
		{list(9, 2, 1, 1, 1, 1, 1, 0), l(0, 0), 0, api.OK}, {list(9, 2, 5, 1, 1, 5, 1, 0), l(1, 0), 1, api.OK}, {list(9, 3, 5, 1, 5, 5, 1, 5), l(0, 1), 0, api.OK}, {list(5, 3, 5, 1, 0, 5, 1, 3, 5, 1, 5), l(0, 1, 2), 3, api.OK}, {list(5, 3, 5, 1, 5, 5, 1, 5, 5, 1, 5), l(0, 1, 2), 0, api.OK},
		// a packing with more layers than others comes first, or has less trouble
		{alike(6, 4, 3, 4, 1, 3), l(0, 1, 0, 2), 0, api.OK}, {list(6, 3, 2, 1, 0, 2, 1, 0, 4, 1, 1), l(0, 1, 1), 1, api.OK}, {list(8, 5, 5, 5, 0, 3, 5, 1, 5, 5, 0, 2, 5, 0, 1, 5, 0), l(0, 2, 1, 2, 2), 2, api.OK}, {list(8, 2, 5, 5, 0, 3, 5, 1, 5, 5, 0, 2, 5, 0, 1, 5, 0), l(0, 1, 1, 0, 0), 3, api.OK},
	} {
		if y, n, e := chest.Ease(x.c); e != x.e || n != x.trouble || !slices.Equal(y, x.ease) {
			t.Error(i, y, n, e)
		}
	}
}

// P8.4: generated lists; no right packing has less trouble.
func TestOutAndEaseAreDefined(t *testing.T) {
	g := random(11)
	some := met{}
	for range 1000 {
		c := anyList(g, 6)
		all := slowPackings(c)
		y, n, e := chest.Ease(c)
		if len(all) == 0 {
			some.note("none")
			if e != api.ErrNone || n != 0 || len(y) > 0 {
				t.Fatal(c, y, n, e)
			}
			continue
		}
		want, trouble := slowBest(all, func(packing []int) int { return slowTrouble(c, packing) })
		fewest, _ := slowBest(all, slowLayers)
		some.note("first: ", slices.Equal(want, all[0]), " fewest: ", slices.Equal(want, fewest), " none: ", trouble == 0)
		if e != api.OK || n != trouble || !slices.Equal(y, want) {
			t.Fatal(c, y, n, want, trouble, e)
		}
		packing := all[g.IntN(len(all))]
		for _, figures := range allGroups(len(c.Figures)) {
			if y, e := chest.Out(c, packing, figures); e != api.OK || !slices.Equal(y, slowOut(packing, figures)) {
				t.Fatal(c, packing, figures, y, e)
			}
		}
	}
	some.atLeast(t, 15, "none", "first: true fewest: true none: true", "first: true fewest: true none: false", "first: true fewest: false none: true", "first: false fewest: false none: false")
}

// chain returns a list of figures of which each has a layer of its own, in order.
func chain() api.ChestList { return list(2, 5, 2, 5, 1, 2, 4, 2, 2, 3, 3, 2, 1, 5) }

// P8.5: the chapter's examples, and errors in their order.
func TestLater(t *testing.T) {
	full := with(listD(), func(c *api.ChestList) { c.Depth = 4 })
	for i, x := range []struct {
		c       api.ChestList
		packing []int
		more    api.ChestFigure
		want    []int
		moved   int
		e       api.Errno
	}{
		{listC(), l(0, 0, 1, 0, 2), figure(3, 2, 2), l(0, 0, 1, 0, 2, 1), 0, api.OK}, {listC(), l(0, 0, 1, 0, 2), figure(6, 2, 1), nil, 0, api.ErrNone}, {listC(), l(0, 1, 1, 1, 2), figure(3, 2, 2), l(0, 1, 1, 1, 2, 2), 0, api.OK}, {listC(), l(0, 0, 1, 0, 2), figure(5, 3, 0), l(0, 1, 1, 1, 2, 0), 2, api.OK}, {listC(), l(0, 0, 1, 0, 2), figure(1, 1, 2), l(0, 0, 1, 0, 2, 1), 0, api.OK},
		{emptyList(), nil, figure(1, 1, 0), l(0), 0, api.OK}, {emptyList(), l(), figure(1, 5, 5), l(0), 0, api.OK}, {emptyList(), nil, figure(2, 1, 0), nil, 0, api.ErrNone},
		// there is place, or a layer more, without a figure that is moved
		{alike(2, 3, 1, 1), l(0, 0), figure(1, 1, 0), l(0, 0, 1), 0, api.OK}, {alike(2, 3, 1, 1), l(1, 0), figure(1, 1, 0), l(1, 0, 0), 0, api.OK}, {alike(2, 3, 2, 2), l(1, 0), figure(1, 1, 0), l(1, 0, 2), 0, api.OK}, {alike(2, 2, 2, 2), l(1, 0), figure(1, 1, 0), nil, 0, api.ErrNone},
		// the new figure goes above all others; one of these is moved
		{alike(2, 3, 2, 2), l(1, 0), figure(1, 2, 0), l(1, 2, 0), 1, api.OK}, {alike(1, 3, 1, 1), l(1, 0), figure(1, 2, 0), l(1, 2, 0), 1, api.OK}, {alike(1, 5, 1, 1, 1, 1), l(2, 0, 3, 1), figure(1, 2, 0), l(2, 4, 3, 1, 0), 1, api.OK}, {alike(1, 4, 1, 1, 1, 1), l(2, 0, 3, 1), figure(1, 2, 0), nil, 0, api.ErrNone},
		// all that lie below it are moved, and no others
		{chain(), l(0, 1, 2, 3), figure(2, 5, 0), l(1, 2, 3, 4, 0), 4, api.OK}, {chain(), l(0, 1, 2, 3), figure(2, 5, 1), l(0, 2, 3, 4, 1), 3, api.OK}, {chain(), l(0, 1, 2, 3), figure(2, 4, 2), l(0, 1, 3, 4, 2), 2, api.OK}, {chain(), l(0, 1, 2, 3), figure(2, 3, 3), l(0, 1, 2, 4, 3), 1, api.OK}, {chain(), l(0, 1, 2, 3), figure(2, 1, 5), l(0, 1, 2, 3, 4), 0, api.OK}, {chain(), l(0, 1, 2, 3), figure(2, 1, 2), nil, 0, api.ErrNone},
		// figures that are moved between two layers
		{alike(3, 2, 1, 2, 2), l(0, 0, 1), figure(1, 1, 0), l(0, 0, 1, 1), 0, api.OK}, {alike(4, 2, 2, 1, 3, 1), l(0, 0, 1, 1), figure(1, 1, 0), l(0, 0, 1, 1, 0), 0, api.OK}, {alike(4, 2, 2, 1, 2, 1), l(0, 0, 1, 1), figure(2, 1, 0), l(0, 0, 1, 0, 1), 1, api.OK}, {alike(5, 2, 1, 3, 1, 3), l(1, 0, 0, 1), figure(2, 1, 0), l(0, 0, 0, 1, 1), 1, api.OK},
		// a list that is full, and errors before and after it
		{full, l(0, 0, 1, 1, 2, 3), figure(1, 1, 0), nil, 0, api.ErrLong}, {greatestList(), l(0, 0, 0, 0, 0, 0), figure(1, 1, 0), nil, 0, api.ErrLong}, {greatestList(), l(0, 0, 0, 0, 0, 2), figure(1, 1, 0), nil, 0, api.ErrLong}, {greatestList(), l(0, 0, 0, 0, 0, 5), figure(1, 1, 0), nil, 0, api.ErrArg}, {greatestList(), l(0, 0, 0, 0, 0), figure(1, 1, 0), nil, 0, api.ErrArg}, {greatestList(), l(0, 0, 0, 0, 0, 0), figure(0, 1, 0), nil, 0, api.ErrArg},
		{listC(), l(0, 0, 1, 1, 2), figure(3, 2, 2), nil, 0, api.ErrRule}, {listC(), l(0, 0, 1, 1, 2), figure(3, 2, 6), nil, 0, api.ErrArg}, {listC(), l(0, 0, 0, 0, 1), figure(9, 5, 5), nil, 0, api.ErrRule}, {alike(9, 3, 1, 1), l(0, 2), figure(1, 1, 0), nil, 0, api.ErrRule}, {listC(), l(0, 1, 1, 0, 2), figure(1, 1, 5), nil, 0, api.ErrRule},
	} {
		if y, n, e := chest.Later(x.c, x.packing, x.more); e != x.e || n != x.moved || !slices.Equal(y, x.want) {
			t.Error(i, y, n, e)
		}
	}
	for i, packing := range badPackings() {
		if y, n, e := chest.Later(listC(), packing, figure(3, 2, 2)); e != api.ErrArg || n != 0 || len(y) > 0 {
			t.Error(i, y, n, e)
		}
	}
	for i, more := range badFigures() {
		if y, n, e := chest.Later(listC(), l(0, 0, 1, 0, 2), more); e != api.ErrArg || n != 0 || len(y) > 0 {
			t.Error(i, y, n, e)
		}
	}
}

// P8.5: generated lists; no right packing moves fewer figures.
func TestLaterIsDefined(t *testing.T) {
	g := random(12)
	some := met{}
	for range 1500 {
		c := anyList(g, 6)
		if len(c.Figures) == 0 {
			continue
		}
		last := len(c.Figures) - 1
		more := c.Figures[last]
		c.Figures = c.Figures[:last]
		all := slowPackings(c)
		if len(all) == 0 {
			continue
		}
		packing := all[g.IntN(len(all))]
		longer := slowPackings(with(c, func(c *api.ChestList) { c.Figures = append(c.Figures, more) }))
		y, n, e := chest.Later(c, packing, more)
		if len(longer) == 0 {
			some.note("none")
			if e != api.ErrNone || n != 0 || len(y) > 0 {
				t.Fatal(c, packing, more, y, n, e)
			}
			continue
		}
		want, moved := slowBest(longer, func(later []int) int { return slowMoved(packing, later) })
		some.note(moved)
		some.note("first: ", slices.Equal(want, longer[0]))
		if e != api.OK || n != moved || !slices.Equal(y, want) {
			t.Fatal(c, packing, more, y, n, want, moved, e)
		}
	}
	some.atLeast(t, 5, "none", "0", "1", "2", "3", "first: true", "first: false")
}
