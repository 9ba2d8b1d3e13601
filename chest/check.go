package chest

import (
	"slices"

	"kelir/api"
)

func argument(good bool) api.Errno {
	if good {
		return api.OK
	}
	return api.ErrArg
}

func within(n, low, high int) bool { return low <= n && n <= high }

func goodList(c api.ChestList) bool {
	bad := func(f api.ChestFigure) bool { return !goodFigure(f) }
	return within(c.Room, 1, api.ChestRoom) && within(c.Depth, 1, api.ChestDepth) && len(c.Figures) <= api.ChestFigures && !slices.ContainsFunc(c.Figures, bad)
}

func goodFigure(f api.ChestFigure) bool {
	return within(f.Size, 1, api.ChestSize) && within(f.Rank, 1, api.ChestRanks) && within(f.Evening, 0, api.ChestEvenings-1)
}

func goodPacking(c api.ChestList, packing []int) bool {
	bad := func(layer int) bool { return !within(layer, 0, c.Depth-1) }
	return len(packing) == len(c.Figures) && !slices.ContainsFunc(packing, bad)
}

// goodNumbers reports whether a list has numbers of figures in increasing order.
func goodNumbers(c api.ChestList, figures []int) bool {
	before := -1
	for _, n := range figures {
		if !within(n, before+1, len(c.Figures)-1) {
			return false
		}
		before = n
	}
	return true
}
