package chest_test

import (
	"slices"
	"testing"

	"kelir/api"
	"kelir/chest"
)

// P8.6, P8.7, P8.8: the chapter's examples, and figures that cannot be packed by sizes, by layers, or by ranks and evenings.
func TestChestsClashAndRoom(t *testing.T) {
	for i, x := range []struct {
		c      api.ChestList
		chests []int
		n      int
		e      api.Errno
		clash  []int
		f      api.Errno
		room   int
	}{
		{listC(), l(0, 0, 0, 0, 0), 1, api.OK, nil, api.ErrNone, 9}, {listD(), l(0, 0, 0, 0, 0, 1), 2, api.OK, l(0, 1, 2, 4, 5), api.OK, 11}, {emptyList(), nil, 0, api.OK, nil, api.ErrNone, 0}, {list(20, 5), nil, 0, api.OK, nil, api.ErrNone, 0}, {smallList(), l(0), 1, api.OK, nil, api.ErrNone, 4}, {greatestList(), l(0, 0, 0, 0, 0, 0), 1, api.OK, nil, api.ErrNone, 2},
		// a figure that goes into no chest
		{alike(4, 2, 5, 1), nil, 0, api.ErrNone, l(0), api.OK, 5}, {alike(4, 5, 1, 1, 5, 9), nil, 0, api.ErrNone, l(2), api.OK, 9}, {alike(8, 1, 9), nil, 0, api.ErrNone, l(0), api.OK, 9}, {alike(1, 1, 1, 1, 2), nil, 0, api.ErrNone, l(2), api.OK, 4},
		// as many layers as there are figures, or fewer
		{alike(1, 2, 1, 1, 1, 1, 1, 1), l(0, 0, 1, 1, 2, 2), 3, api.OK, l(0, 1, 2), api.OK, 3}, {alike(1, 5, 1, 1, 1, 1, 1, 1), l(0, 0, 0, 0, 0, 1), 2, api.OK, l(0, 1, 2, 3, 4, 5), api.OK, 2}, {alike(1, 1, 1, 1, 1, 1, 1, 1), l(0, 1, 2, 3, 4, 5), 6, api.OK, l(0, 1), api.OK, 6},
		// more than the greatest Room
		{alike(20, 1, 9, 9, 9, 9, 9, 9), l(0, 0, 1, 1, 2, 2), 3, api.OK, l(0, 1, 2), api.OK, 54}, {alike(20, 2, 9, 9, 9, 9, 9, 9), l(0, 0, 0, 0, 1, 1), 2, api.OK, l(0, 1, 2, 3, 4), api.OK, 27},
		// figures that must lie in one layer, in any chest
		{list(9, 5, 5, 2, 1, 6, 1, 0), l(0, 1), 2, api.OK, l(0, 1), api.OK, 11}, {list(9, 5, 5, 3, 2, 4, 1, 0, 1, 2, 1), l(0, 0, 1), 2, api.OK, l(0, 1, 2), api.OK, 10}, {list(9, 5, 6, 3, 2, 4, 1, 0, 3, 2, 1), l(0, 1, 0), 2, api.OK, l(0, 1), api.OK, 13},
		// the fewest chests are not those that are filled first
		{alike(4, 1, 1, 2, 2, 3), l(0, 1, 1, 0), 2, api.OK, l(1, 3), api.OK, 8}, {alike(10, 1, 2, 3, 8, 7), l(0, 1, 0, 1), 2, api.OK, l(1, 2), api.OK, 20},
		// a shorter list comes later, and of those of one length the first one is meant
		{alike(5, 1, 2, 2, 2, 3, 3), l(0, 0, 1, 1, 2), 3, api.OK, l(3, 4), api.OK, 12}, {alike(6, 1, 2, 3, 4, 3, 4), l(0, 1, 0, 1, 2), 3, api.OK, l(1, 2), api.OK, 16},
	} {
		if y, n, e := chest.Chests(x.c); e != x.e || n != x.n || !slices.Equal(y, x.chests) {
			t.Error(i, y, n, e)
		}
		if y, e := chest.Clash(x.c); e != x.f || !slices.Equal(y, x.clash) {
			t.Error(i, y, e)
		}
		if n, e := chest.Room(x.c); e != api.OK || n != x.room {
			t.Error(i, n, e)
		}
	}
}

// tightList is one that often goes into more than one chest.
func tightList(g interface{ IntN(int) int }, c api.ChestList) api.ChestList {
	return with(c, func(c *api.ChestList) {
		c.Room, c.Depth = 1+g.IntN(c.Room), 1+g.IntN(c.Depth)
		for n := range c.Figures {
			if g.IntN(20) > 0 {
				c.Figures[n].Size = min(c.Figures[n].Size, c.Room)
			}
		}
	})
}

// P8.6: generated lists; no chests are fewer.
func TestChestsAreDefined(t *testing.T) {
	g := random(21)
	some := met{}
	for n := range 500 {
		c := tightList(g, anyList(g, 5+n%8/7))
		if n%2 == 0 {
			c = with(fullList(g, 5), func(c *api.ChestList) { c.Depth = 1 + g.IntN(4)/3 })
		}
		all := slowChests(c)
		want, fewest := slowBest(all, slowLayers)
		y, n, e := chest.Chests(c)
		if len(all) == 0 {
			some.note("none")
			if e != api.ErrNone || n != 0 || len(y) > 0 {
				t.Fatal(c, y, n, e)
			}
			continue
		}
		some.note(fewest, " ", slices.Equal(want, all[0]))
		if e != api.OK || n != fewest || !slices.Equal(y, want) {
			t.Fatal(c, y, n, want, fewest, e)
		}
	}
	some.atLeast(t, 8, "none", "1 true", "2 true", "3 true", "4 true")
	some.atLeast(t, 3, "0 true", "2 false", "3 false")
}

// P8.7: generated lists; there is a clash just if not all can be packed, and any fewer figures can be.
func TestClashIsDefined(t *testing.T) {
	g := random(22)
	some := met{}
	for range 800 {
		c := anyList(g, 6)
		if g.IntN(3) == 0 {
			c = tightList(g, c)
		}
		var want []int
		found := false
		for _, figures := range allGroups(len(c.Figures)) {
			if !slowCan(only(c, figures)) {
				want, found = figures, true
				break
			}
		}
		some.note(len(want))
		y, e := chest.Clash(c)
		if found != (e == api.OK) || !found && e != api.ErrNone || found == slowCan(c) || !slices.Equal(y, want) {
			t.Fatal(c, y, want, e)
		}
		for skip := range y {
			if _, _, e := chest.Best(only(c, slices.Delete(slices.Clone(y), skip, skip+1))); e != api.OK {
				t.Fatal(c, y, skip, e)
			}
		}
	}
	some.atLeast(t, 5, "0", "1", "2", "3", "4", "5", "6")
}

// P8.8: generated lists; with this Room there is a right packing, with a lesser one there is none.
func TestRoomIsDefined(t *testing.T) {
	g := random(23)
	some := met{}
	for range 600 {
		c := anyList(g, 6)
		if g.IntN(4) == 0 {
			c.Depth = 1 + g.IntN(2)
		}
		n, e := chest.Room(c)
		if e != api.OK || (n == 0) != (len(c.Figures) == 0) {
			t.Fatal(c, n, e)
		}
		some.note("more ", n > 20)
		some.note("than Room ", n > c.Room)
		for _, room := range l(n-1, n) {
			roomy := with(c, func(c *api.ChestList) { c.Room = room })
			if room >= 0 && slowCan(roomy) != (room == n) {
				t.Fatal(c, n)
			}
			want := api.OK
			if room < n {
				want = api.ErrNone
			}
			if _, _, e := chest.Best(roomy); room > 0 && room <= 20 && e != want {
				t.Fatal(roomy, n, e)
			}
		}
		if again, e := chest.Room(with(c, func(c *api.ChestList) { c.Room = 1 + g.IntN(20) })); e != api.OK || again != n {
			t.Fatal(c, n, again, e)
		}
	}
	some.atLeast(t, 20, "more true", "more false", "than Room true", "than Room false")
}
