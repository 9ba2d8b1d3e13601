package outline

import (
	"iter"

	"kelir/api"
)

// shade is a reading with its shadow.
type shade struct {
	api.OutlineReading
	shadow string
}

// readings goes through all readings of a company of so many figures, in order.
func readings(figures int, r api.OutlineReach) iter.Seq[api.OutlineReading] {
	return func(yield func(api.OutlineReading) bool) {
		for figure := range figures {
			for near := r.Near.Low; near <= r.Near.High; near++ {
				for x := r.X.Low; x <= r.X.High; x++ {
					place := api.OutlinePlace{Near: near, X: x, Y: r.Y}
					if !yield(api.OutlineReading{Figure: figure, Place: place}) {
						return
					}
				}
			}
		}
	}
}

func shades(s api.OutlineStage, company []api.OutlineFigure, r api.OutlineReach) []shade {
	var list []shade
	for one := range readings(len(company), r) {
		list = append(list, shade{one, view{s, company[one.Figure], one.Place}.shadow()})
	}
	return list
}

// seen returns the shades that agree with a sight.
func seen(list []shade, sight string) []shade {
	var out []shade
	for _, one := range list {
		if agree(one.shadow, sight) {
			out = append(out, one)
		}
	}
	return out
}

// figures returns which figures have one of the shades.
func figures(list []shade) map[int]bool {
	some := map[int]bool{}
	for _, one := range list {
		some[one.Figure] = true
	}
	return some
}

func words(may map[int]bool, company int) []api.OutlineWord {
	out := make([]api.OutlineWord, company)
	for figure := range company {
		switch {
		case !may[figure]:
			out[figure] = api.OutlineNever
		case len(may) > 1:
			out[figure] = api.OutlineMay
		default:
			out[figure] = api.OutlineSurely
		}
	}
	return out
}

func unseenCells(sight string) []int {
	var cells []int
	for cell := range len(sight) {
		if sight[cell] == unseen {
			cells = append(cells, cell)
		}
	}
	return cells
}

// mostLeft returns how many figures have one of the shades at most, once the cell is seen dark or light.
func mostLeft(list []shade, cell int) int {
	most := 0
	for _, tone := range [2]byte{dark, light} {
		some := map[int]bool{}
		for _, one := range list {
			if !clash(one.shadow[cell], tone) {
				some[one.Figure] = true
			}
		}
		most = max(most, len(some))
	}
	return most
}

// best returns the first one of some things with the least cost, and this cost. There must be at least one.
func best[T any](things []T, cost func(T) int) (T, int) {
	found := things[0]
	least := cost(found)
	for _, thing := range things[1:] {
		if c := cost(thing); c < least {
			found, least = thing, c
		}
	}
	return found, least
}

// agreement is two figures of which some shadows agree.
type agreement struct {
	one   int
	other int
}

func mistaken(list []shade, company int) (one, other int, e api.Errno) {
	defer func() {
		switch found := recover().(type) {
		case nil:
		case agreement:
			one, other, e = found.one, found.other, api.OK
		default:
			panic(found)
		}
	}()
	for one := range company {
		for other := one + 1; other < company; other++ {
			tellApart(shadesOf(list, one), shadesOf(list, other))
		}
	}
	return 0, 0, api.ErrNone
}

// tellApart gives up with an agreement if a shade of one figure agrees with one of another.
func tellApart(ones, others []shade) {
	for _, one := range ones {
		for _, other := range others {
			if agree(one.shadow, other.shadow) {
				panic(agreement{one.Figure, other.Figure})
			}
		}
	}
}

func shadesOf(list []shade, figure int) []shade {
	var out []shade
	for _, one := range list {
		if one.Figure == figure {
			out = append(out, one)
		}
	}
	return out
}

func told(list []shade, nears api.Span, figure int) []int {
	var out []int
search:
	for near := nears.Low; near <= nears.High; near++ {
		for _, one := range shadesOf(list, figure) {
			if one.Place.Near != near {
				continue
			}
			for _, other := range list {
				if other.Figure != figure && agree(one.shadow, other.shadow) {
					continue search
				}
			}
		}
		out = append(out, near)
	}
	return out
}
