package chest

import (
	"iter"
	"slices"

	"kelir/api"
)

// some is which figures of a list are meant.
type some struct{ in [api.ChestFigures]bool }

func someOf(figures []int) some {
	var s some
	for _, n := range figures {
		s.in[n] = true
	}
	return s
}

// packer is a list with what is known of whether some of its figures can be packed.
type packer struct {
	api.ChestList
	known map[some]bool
}

func packerOf(c api.ChestList) packer { return packer{c, map[some]bool{}} }

// can reports whether some figures can be packed.
func (p packer) can(figures []int) bool {
	key := someOf(figures)
	can, is := p.known[key]
	if !is {
		can = hasPacking(p.alone(figures))
		p.known[key] = can
	}
	return can
}

// alone returns the list of some figures alone.
func (p packer) alone(figures []int) api.ChestList {
	c := p.ChestList
	c.Figures = nil
	for _, n := range figures {
		c.Figures = append(c.Figures, p.Figures[n])
	}
	return c
}

func hasPacking(c api.ChestList) bool {
	for range packings(c) {
		return true
	}
	return false
}

// inChest returns all figures of a chest, in increasing order.
func inChest(chests []int, chest int) []int {
	var list []int
	for n, own := range chests {
		if own == chest {
			list = append(list, n)
		}
	}
	return list
}

// chests goes through all chests for a list, in order. Those of the first figures are given up as soon as one of them cannot be packed, since it cannot with more figures either.
func (p packer) chests() iter.Seq[[]int] {
	return func(yield func([]int) bool) {
		var search func(chests []int) bool
		search = func(chests []int) bool {
			if len(chests) == len(p.Figures) {
				return yield(slices.Clone(chests))
			}
			for chest := range many(chests) + 1 {
				next := append(chests, chest)
				if p.can(inChest(next, chest)) && !search(next) {
					return false
				}
			}
			return true
		}
		search(nil)
	}
}

// groupsOf goes through all lists of so many of some figures, in increasing order each, in order.
func groupsOf(figures, size int) iter.Seq[[]int] {
	return func(yield func([]int) bool) {
		var search func(list []int, next int) bool
		search = func(list []int, next int) bool {
			if len(list) == size {
				return yield(slices.Clone(list))
			}
			for n := next; n < figures; n++ {
				if !search(append(list, n), n+1) {
					return false
				}
			}
			return true
		}
		search(nil, 0)
	}
}

// clash returns the first one of the shortest lists of figures that cannot be packed, if there are any.
func (p packer) clash() ([]int, bool) {
	var first []int
	found := false
search:
	for size := range len(p.Figures) + 1 {
		for list := range groupsOf(len(p.Figures), size) {
			if !p.can(list) {
				first, found = list, true
				break search
			}
		}
	}
	return first, found
}

// room returns the least one with which there is a right packing: with room for all figures in one layer there is one.
func room(c api.ChestList) int {
	var sizes []int
	for _, f := range c.Figures {
		sizes = append(sizes, f.Size)
	}
	c.Room = sum(sizes...)
	_, least, _ := best(packings(c), func(layers []int) int { return packed{c, layers}.greatest() })
	return least
}

// greatest returns the size of the layer that has the most.
func (p packed) greatest() int {
	most := 0
	for layer := range p.Depth {
		most = max(most, p.size(layer))
	}
	return most
}
