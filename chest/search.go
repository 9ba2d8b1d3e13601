package chest

import (
	"iter"
	"slices"

	"kelir/api"
)

// lastFits reports whether the last one of the figures that are packed breaks no rule with those before it. A gap is no reason, since figures that follow may fill it.
func (p packed) lastFits() bool {
	last := len(p.layers) - 1
	if p.size(p.layers[last]) > p.Room {
		return false
	}
	for _, may := range orders() {
		for n := range last {
			if p.breaks(may, n, last) || p.breaks(may, last, n) {
				return false
			}
		}
	}
	return true
}

// packings goes through all right packings of a list, in order.
func packings(c api.ChestList) iter.Seq[[]int] {
	return func(yield func([]int) bool) {
		var search func(p packed) bool
		search = func(p packed) bool {
			if len(p.layers) == len(p.Figures) {
				_, gap := p.gap()
				return gap || yield(slices.Clone(p.layers))
			}
			for layer := range p.Depth {
				next := packed{c, append(p.layers, layer)}
				if next.lastFits() && !search(next) {
					return false
				}
			}
			return true
		}
		search(packed{c, nil})
	}
}

// best returns the first one of some things with the least cost, and this, if there are any.
func best[T any](things iter.Seq[T], cost func(T) int) (T, int, bool) {
	var first T
	least, found := 0, false
	for thing := range things {
		if n := cost(thing); !found || n < least {
			first, least, found = thing, n, true
		}
	}
	return first, least, found
}

// spans returns between which bounds the layer of each figure lies in some packings.
func spans(all [][]int) []api.Span {
	var list []api.Span
	for n := range all[0] {
		span := api.Span{Low: all[0][n], High: all[0][n]}
		for _, layers := range all {
			span = api.Span{Low: min(span.Low, layers[n]), High: max(span.High, layers[n])}
		}
		list = append(list, span)
	}
	return list
}

// together reports whether two figures lie in one layer in each of some packings.
func together(all [][]int, one, other int) bool {
	apart := func(layers []int) bool { return layers[one] != layers[other] }
	return !slices.ContainsFunc(all, apart)
}

// groups returns a number for each figure, by which those that lie together in all of some packings have the same one.
func groups(all [][]int) []int {
	var list []int
	for n := range all[0] {
		own := many(list)
		for before, group := range list {
			if together(all, before, n) {
				own = group
			}
		}
		list = append(list, own)
	}
	return list
}
