package chest

import (
	"slices"

	"kelir/api"
)

// out returns all figures that must be taken out to reach some others, in increasing order.
func (p packed) out(figures []int) []int {
	lowest := 0
	for _, n := range figures {
		lowest = max(lowest, p.layers[n])
	}
	var list []int
	for n, layer := range p.layers {
		if layer < lowest && !slices.Contains(figures, n) {
			list = append(list, n)
		}
	}
	return list
}

// wanted returns all figures that are wanted on an evening, in increasing order.
func (p packed) wanted(evening int) []int {
	var list []int
	for n, f := range p.Figures {
		if f.Evening == evening {
			list = append(list, n)
		}
	}
	return list
}

func (p packed) trouble() int {
	trouble := 0
	for evening := range api.ChestEvenings {
		trouble += len(p.out(p.wanted(evening)))
	}
	return trouble
}

// moved returns how many figures lie in another layer in a later packing, which may have more figures.
func moved(packing, later []int) int {
	count := 0
	for n, layer := range packing {
		if later[n] != layer {
			count++
		}
	}
	return count
}

func withMore(c api.ChestList, more api.ChestFigure) api.ChestList {
	c.Figures = append(slices.Clone(c.Figures), more)
	return c
}
