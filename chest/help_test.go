package chest_test

import (
	"cmp"
	"fmt"
	"math"
	"math/rand/v2"
	"reflect"
	"slices"
	"testing"

	"kelir/api"
)

func l(n ...int) []int { return n }

func ll(lists ...[]int) [][]int { return lists }

func sp(low, high int) api.Span { return api.Span{Low: low, High: high} }

func figure(size, rank, evening int) api.ChestFigure {
	return api.ChestFigure{Size: size, Rank: rank, Evening: evening}
}

func fault(rule api.ChestRule, one, other int) api.ChestFault {
	return api.ChestFault{Rule: rule, One: one, Other: other}
}

// list returns one of figures with Size, Rank and Evening, one after the other.
func list(room, depth int, n ...int) api.ChestList {
	c := api.ChestList{Room: room, Depth: depth}
	for i := 0; i < len(n); i += 3 {
		c.Figures = append(c.Figures, figure(n[i], n[i+1], n[i+2]))
	}
	return c
}

// listC and listD are the lists c and d of the chapter.
func listC() api.ChestList { return list(10, 3, 4, 3, 0, 3, 2, 0, 5, 2, 1, 2, 3, 1, 6, 1, 2) }

func listD() api.ChestList {
	return with(listC(), func(c *api.ChestList) { c.Figures = append(c.Figures, figure(6, 2, 1)) })
}

// smallList is the list of the chapter's text.
func smallList() api.ChestList { return list(9, 2, 4, 3, 0) }

// emptyList has no figures.
func emptyList() api.ChestList { return list(1, 1) }

// alike returns a list of figures of one rank and one evening.
func alike(room, depth int, sizes ...int) api.ChestList {
	c := api.ChestList{Room: room, Depth: depth}
	for _, size := range sizes {
		c.Figures = append(c.Figures, figure(size, 1, 0))
	}
	return c
}

// greatestList has the most packings that are right.
func greatestList() api.ChestList { return alike(20, 5, 1, 1, 1, 1, 1, 1) }

// longestList has the longest text.
func longestList() api.ChestList { return list(20, 5, slices.Repeat(l(9, 5, 5), 6)...) }

func copyOf(c api.ChestList) api.ChestList {
	c.Figures = slices.Clone(c.Figures)
	return c
}

func with(c api.ChestList, change func(*api.ChestList)) api.ChestList {
	c = copyOf(c)
	change(&c)
	return c
}

// badLists are all but for one thing like the list c.
func badLists() []api.ChestList {
	out := []api.ChestList{{}, {Room: 1}, {Depth: 1}, {Figures: listC().Figures}}
	for _, n := range l(-1, math.MinInt, math.MaxInt) {
		out = append(out,
			with(listC(), func(c *api.ChestList) { c.Room = n }),
			with(listC(), func(c *api.ChestList) { c.Depth = n }),
			with(emptyList(), func(c *api.ChestList) { c.Room = n }),
			with(emptyList(), func(c *api.ChestList) { c.Depth = n }),
			with(listC(), func(c *api.ChestList) { c.Figures[4].Size = n }),
			with(listC(), func(c *api.ChestList) { c.Figures[4].Rank = n }),
			with(listC(), func(c *api.ChestList) { c.Figures[4].Evening = n }))
	}
	for _, change := range []func(*api.ChestList){
		func(c *api.ChestList) { c.Room = 0 },
		func(c *api.ChestList) { c.Room = 21 },
		func(c *api.ChestList) { c.Depth = 0 },
		func(c *api.ChestList) { c.Depth = 6 },
		func(c *api.ChestList) { c.Figures = append(c.Figures, c.Figures[0], c.Figures[0]) },
		func(c *api.ChestList) { c.Figures = slices.Repeat(c.Figures, 20000) },
		func(c *api.ChestList) { c.Figures[0].Size = 0 },
		func(c *api.ChestList) { c.Figures[0].Size = 10 },
		func(c *api.ChestList) { c.Figures[1].Size = 10 },
		func(c *api.ChestList) { c.Figures[4].Size = 0 },
		func(c *api.ChestList) { c.Figures[0].Rank = 0 },
		func(c *api.ChestList) { c.Figures[0].Rank = 6 },
		func(c *api.ChestList) { c.Figures[2].Rank = 0 },
		func(c *api.ChestList) { c.Figures[4].Rank = 6 },
		func(c *api.ChestList) { c.Figures[0].Evening = -1 },
		func(c *api.ChestList) { c.Figures[0].Evening = 6 },
		func(c *api.ChestList) { c.Figures[3].Evening = -1 },
		func(c *api.ChestList) { c.Figures[4].Evening = 6 },
	} {
		out = append(out, with(listC(), change))
	}
	return out
}

// badPackings are no packings of the list c, badNumbers no figures of it in increasing order, and badFigures no figures.
func badPackings() [][]int {
	return ll(nil, l(), l(0), l(0, 0, 1, 0), l(0, 0, 1, 0, 2, 2), l(3, 0, 1, 0, 2), l(0, 0, 1, 0, 3), l(-1, 0, 1, 0, 2), l(0, 0, 1, 0, -1), l(0, 0, math.MinInt, 0, 2), l(0, math.MaxInt, 1, 0, 2), slices.Repeat(l(0), 100000))
}

func badNumbers() [][]int {
	return ll(l(-1), l(5), l(6), l(-1, 2), l(2, 5), l(0, 1, 2, 3, 4, 5), l(1, 0), l(2, 2), l(0, 1, 1), l(0, 3, 2), l(4, 4), l(0, 0), l(math.MinInt), l(math.MaxInt), l(0, math.MaxInt), l(2, math.MinInt), slices.Repeat(l(0), 100000))
}

func badFigures() []api.ChestFigure {
	out := []api.ChestFigure{{}, figure(10, 1, 0), figure(1, 6, 0), figure(1, 1, 6), figure(0, 1, 0), figure(1, 0, 0)}
	for _, n := range l(-1, math.MinInt, math.MaxInt) {
		out = append(out, figure(n, 1, 0), figure(1, n, 0), figure(1, 1, n))
	}
	return out
}

func random(seed uint64) *rand.Rand { return rand.New(rand.NewPCG(seed, 8)) }

// randomList has at most so many figures. Often those of a later evening have a lesser rank, so that they can be packed, or they differ in nothing but size; and often there is place for few figures in a layer.
func randomList(g *rand.Rand, most int) api.ChestList {
	c := api.ChestList{Room: 1 + g.IntN(20), Depth: 1 + max(g.IntN(5), g.IntN(5))}
	size, ranks, evenings, kind := 1+g.IntN(9), 1+g.IntN(5), 1+g.IntN(6), g.IntN(5)
	if g.IntN(3) > 0 {
		c.Room = size + g.IntN(size+2)
	}
	for range max(g.IntN(most+1), g.IntN(most+1)) {
		f := figure(1+g.IntN(size), 1+g.IntN(ranks), g.IntN(evenings))
		switch kind {
		case 0:
			f.Rank, f.Evening = ranks, evenings-1
		case 1, 2:
			f.Rank = 5 - f.Evening*4/5
		case 3:
			f.Rank = min(max(5-f.Evening+g.IntN(3)/2, 1), 5)
		}
		c.Figures = append(c.Figures, f)
	}
	return c
}

// fullList has figures that fill layers, and differ in nothing but size, or little.
func fullList(g *rand.Rand, most int) api.ChestList {
	c := api.ChestList{Room: 5 + g.IntN(5), Depth: 1 + max(g.IntN(5), g.IntN(5))}
	left, ranks := c.Room, 1+g.IntN(4)/3
	for range most {
		size := 1 + g.IntN(left)
		if g.IntN(3) == 0 {
			size = left
		}
		left -= size
		if left == 0 {
			left = c.Room
		}
		c.Figures = append(c.Figures, figure(size, 1+g.IntN(ranks), 2))
	}
	g.Shuffle(most, func(n, m int) { c.Figures[n], c.Figures[m] = c.Figures[m], c.Figures[n] })
	return c
}

// anyList is one of both kinds.
func anyList(g *rand.Rand, most int) api.ChestList {
	if g.IntN(3) == 0 {
		return fullList(g, most-g.IntN(3))
	}
	return randomList(g, most)
}

// madeLists are those that allLists has returned, which nobody changes.
var madeLists = map[[2]int][][]int{}

// allLists returns all lists of so many of some first numbers, in order.
func allLists(numbers, many int) [][]int {
	key := [2]int{numbers, many}
	if madeLists[key] == nil {
		madeLists[key] = makeLists(numbers, many)
	}
	return madeLists[key]
}

func makeLists(numbers, many int) [][]int {
	out := ll(l())
	for range many {
		var longer [][]int
		for _, list := range out {
			for n := range numbers {
				longer = append(longer, append(slices.Clone(list), n))
			}
		}
		out = longer
	}
	return out
}

// allGroups returns all lists of figures in increasing order: shorter ones first, and those of one length in order.
func allGroups(figures int) [][]int {
	var out [][]int
	for set := range 1 << figures {
		var list []int
		for n := range figures {
			if set>>n&1 == 1 {
				list = append(list, n)
			}
		}
		out = append(out, list)
	}
	slices.SortFunc(out, func(a, b []int) int { return cmp.Or(len(a)-len(b), slices.Compare(a, b)) })
	return out
}

// slowRight is what the chapter says of a packing that is right. Each figure has a size, so a layer without any has none.
func slowRight(c api.ChestList, packing []int) bool {
	sizes := make([]int, c.Depth)
	for n, layer := range packing {
		sizes[layer] += c.Figures[n].Size
	}
	for layer, size := range sizes {
		if size > c.Room || layer > 0 && size > 0 && sizes[layer-1] == 0 {
			return false
		}
	}
	for n, above := range c.Figures {
		for m, below := range c.Figures {
			if packing[n] < packing[m] && (below.Rank > above.Rank || below.Evening < above.Evening) {
				return false
			}
		}
	}
	return true
}

// slowFaults returns all faults of a packing, the first one first.
func slowFaults(c api.ChestList, packing []int) []api.ChestFault {
	var out []api.ChestFault
	for layer := range c.Depth {
		size, lower := 0, false
		for n, own := range packing {
			lower = lower || own > layer
			if own == layer {
				size += c.Figures[n].Size
			}
		}
		if size > c.Room {
			out = append(out, fault(api.ChestFull, layer, 0))
		}
		if size == 0 && lower {
			out = append(out, fault(api.ChestGap, layer, 0))
		}
	}
	for n, f := range c.Figures {
		for m, h := range c.Figures {
			if packing[n] < packing[m] && f.Rank < h.Rank {
				out = append(out, fault(api.ChestRank, n, m))
			}
			if packing[n] < packing[m] && f.Evening > h.Evening {
				out = append(out, fault(api.ChestEvening, n, m))
			}
		}
	}
	slices.SortFunc(out, func(a, b api.ChestFault) int {
		return cmp.Or(cmp.Compare(a.Rule, b.Rule), a.One-b.One, a.Other-b.Other)
	})
	return out
}

// slowPackings returns all right packings, in order.
func slowPackings(c api.ChestList) [][]int {
	var out [][]int
	for _, packing := range allLists(c.Depth, len(c.Figures)) {
		if slowRight(c, packing) {
			out = append(out, packing)
		}
	}
	return out
}

// slowBest returns the first one of some lists with the least cost, and this.
func slowBest(lists [][]int, cost func([]int) int) ([]int, int) {
	var out []int
	least := math.MaxInt
	for _, list := range lists {
		if cost(list) < least {
			out, least = list, cost(list)
		}
	}
	return out, least
}

func slowLayers(numbers []int) int {
	if len(numbers) == 0 {
		return 0
	}
	return slices.Max(numbers) + 1
}

// slowOut returns which figures lie above one of some figures, and are none of these.
func slowOut(packing, figures []int) []int {
	var out []int
	for n, layer := range packing {
		above := slices.ContainsFunc(figures, func(m int) bool { return layer < packing[m] })
		if above && !slices.Contains(figures, n) {
			out = append(out, n)
		}
	}
	return out
}

func slowTrouble(c api.ChestList, packing []int) int {
	trouble := 0
	for evening := range 6 {
		var wanted []int
		for n, f := range c.Figures {
			if f.Evening == evening {
				wanted = append(wanted, n)
			}
		}
		trouble += len(slowOut(packing, wanted))
	}
	return trouble
}

func slowMoved(packing, later []int) int {
	count := 0
	for n, layer := range packing {
		if layer != later[n] {
			count++
		}
	}
	return count
}

// only returns the list of some figures alone.
func only(c api.ChestList, figures []int) api.ChestList {
	return with(c, func(alone *api.ChestList) {
		alone.Figures = nil
		for _, n := range figures {
			alone.Figures = append(alone.Figures, c.Figures[n])
		}
	})
}

// slowCan reports whether the figures of a list can be packed.
func slowCan(c api.ChestList) bool { return len(slowPackings(c)) > 0 }

// slowChests returns all chests for a list, in order.
func slowChests(c api.ChestList) [][]int {
	can := map[string]bool{}
	for _, figures := range allGroups(len(c.Figures)) {
		can[fmt.Sprint(figures)] = slowCan(only(c, figures))
	}
	var out [][]int
	for _, chests := range allLists(len(c.Figures), len(c.Figures)) {
		if inTurn(chests) && eachChest(chests, func(figures []int) bool { return can[fmt.Sprint(figures)] }) {
			out = append(out, chests)
		}
	}
	return out
}

// inTurn reports whether the first number is 0, and each further one at most one greater than the greatest one before it.
func inTurn(numbers []int) bool {
	for n, number := range numbers {
		if number > slowLayers(numbers[:n]) {
			return false
		}
	}
	return true
}

func eachChest(chests []int, can func([]int) bool) bool {
	for chest := range slowLayers(chests) {
		var figures []int
		for n, own := range chests {
			if own == chest {
				figures = append(figures, n)
			}
		}
		if !can(figures) {
			return false
		}
	}
	return true
}

func sameList(a, b api.ChestList) bool {
	return a.Room == b.Room && a.Depth == b.Depth && slices.Equal(a.Figures, b.Figures)
}

// isZero reports whether a result is its zero value; a list may be nil or empty.
func isZero(result any) bool {
	v := reflect.ValueOf(result)
	if v.Kind() == reflect.Slice {
		return v.Len() == 0
	}
	return v.IsZero()
}

// met counts how often something was met in a test.
type met map[string]int

func (m met) note(things ...any) { m[fmt.Sprint(things...)]++ }

func (m met) atLeast(t *testing.T, many int, things ...string) {
	t.Helper()
	for _, thing := range things {
		if m[thing] < many {
			t.Error(thing, "was met too rarely:", m)
		}
	}
}
