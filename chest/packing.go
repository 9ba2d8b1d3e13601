package chest

import (
	"slices"

	"kelir/api"
)

// figure is one that lies in a chest.
type figure api.ChestFigure

// ranked reports whether a figure may lie above another one by their ranks.
func (f figure) ranked(below figure) bool { return f.Rank >= below.Rank }

// timely reports whether a figure may lie above another one by their evenings.
func (f figure) timely(below figure) bool { return f.Evening <= below.Evening }

// order reports whether a figure may lie above another one.
type order func(above, below figure) bool

// orders returns both, as their rules follow each other from api.ChestRank on.
func orders() [2]order { return [...]order{figure.ranked, figure.timely} }

// packed is a list with the layers of its figures, or of the first ones of these.
type packed struct {
	api.ChestList
	layers []int
}

func sum(sizes ...int) int {
	all := 0
	for _, size := range sizes {
		all += size
	}
	return all
}

// size returns that of all figures of a layer.
func (p packed) size(layer int) int {
	var sizes []int
	for n, own := range p.layers {
		if own == layer {
			sizes = append(sizes, p.Figures[n].Size)
		}
	}
	return sum(sizes...)
}

// many returns how many layers, or chests, there are by the numbers of these.
func many(numbers []int) int {
	count := 0
	for _, n := range numbers {
		count = max(count, n+1)
	}
	return count
}

// gap returns the first layer without figures that is above one with some, if there is one.
func (p packed) gap() (int, bool) {
	for layer := range many(p.layers) {
		if !slices.Contains(p.layers, layer) {
			return layer, true
		}
	}
	return 0, false
}

// breaks reports whether a figure lies above another one, and may not by an order.
func (p packed) breaks(may order, one, other int) bool {
	return p.layers[one] < p.layers[other] && !may(figure(p.Figures[one]), figure(p.Figures[other]))
}

// broken is why a packing is given up: it has a fault.
type broken struct{ api.ChestFault }

func giveUp(rule api.ChestRule, one, other int) {
	panic(broken{api.ChestFault{Rule: rule, One: one, Other: other}})
}

// inspect gives a packing up at its first fault.
func (p packed) inspect() {
	for layer := range p.Depth {
		if p.size(layer) > p.Room {
			giveUp(api.ChestFull, layer, 0)
		}
	}
	if layer, is := p.gap(); is {
		giveUp(api.ChestGap, layer, 0)
	}
	for n, may := range orders() {
		for one := range p.layers {
			for other := range p.layers {
				if p.breaks(may, one, other) {
					giveUp(api.ChestRank+api.ChestRule(n), one, other)
				}
			}
		}
	}
}

// fault returns the first one of a packing, if there is one.
func (p packed) fault() (f api.ChestFault, is bool) {
	defer func() {
		switch given := recover().(type) {
		case nil:
		case broken:
			f, is = given.ChestFault, true
		default:
			panic(given)
		}
	}()
	p.inspect()
	return api.ChestFault{}, false
}

func (p packed) right() bool {
	_, is := p.fault()
	return !is
}
