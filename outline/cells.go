package outline

import "slices"

// Sets of proposed cells are bits: the cell with the index n in the list is the bit n.

// everyCell is the set of all cells that can be proposed.
const everyCell = ^uint(0)

// differences returns, for each two shades of different figures, which cells tell them. Sets that are equal are returned once.
func differences(list []shade, cells []int) []uint {
	var out []uint
	for n, one := range list {
		for _, other := range list[n+1:] {
			if one.Figure != other.Figure {
				out = append(out, difference(one, other, cells))
			}
		}
	}
	slices.Sort(out)
	return slices.Compact(out)
}

func difference(one, other shade, cells []int) uint {
	var set uint
	for n, cell := range cells {
		if clash(one.shadow[cell], other.shadow[cell]) {
			set |= 1 << n
		}
	}
	return set
}

// tell reports whether a set has something in common with each of the differences.
func tell(differences []uint, set uint) bool {
	for _, d := range differences {
		if d&set == 0 {
			return false
		}
	}
	return true
}

// fewest returns the first of the shortest lists of cells that tell.
func fewest(differences []uint, cells []int) []int {
	var chosen []int
	var search func(from, left int, set uint) bool
	search = func(from, left int, set uint) bool {
		if left == 0 {
			return tell(differences, set)
		}
		for n := from; n <= len(cells)-left; n++ {
			chosen = append(chosen, cells[n])
			if search(n+1, left-1, set|1<<n) {
				return true
			}
			chosen = chosen[:len(chosen)-1]
		}
		return false
	}
	for size := range len(cells) + 1 {
		if search(0, size, 0) {
			break
		}
	}
	return chosen
}
