package stem

import (
	"iter"
	"slices"

	"kelir/api"
)

// setting is a play in one of its scenes, with the places that are taken in it.
type setting struct {
	api.StemPlay
	api.StemScene
	taken map[int]bool
}

func at(p api.StemPlay, scene int) setting {
	s := setting{p, p.Scenes[scene], map[int]bool{}}
	for _, place := range s.Taken {
		s.taken[place] = true
	}
	return s
}

// point asks whether the last one of some places suits, with those before it; places suit if each of them does.
type point func(s setting, places []int) bool

// points are those that make an arrangement.
func points() [3]point {
	return [...]point{setting.free, setting.reached, setting.ranked}
}

// last returns the figure that rests at the last one of some places.
func (s setting) last(places []int) api.StemFigure {
	return s.Figures[s.Rest[len(places)-1]]
}

func (s setting) isLeft(place int) bool { return place < s.Left }

// free asks whether the last place is a figure's own, and on its side.
func (s setting) free(places []int) bool {
	before, place := places[:len(places)-1], places[len(places)-1]
	if s.taken[place] || slices.Contains(before, place) {
		return false
	}
	switch s.last(places).Side {
	case api.StemLeft:
		return s.isLeft(place)
	case api.StemRight:
		return !s.isLeft(place)
	}
	return true
}

// reached asks whether the last place is not too high.
func (s setting) reached(places []int) bool {
	return s.Heights[places[len(places)-1]] <= s.last(places).Rank
}

// ranked asks whether no figure of a lesser rank is higher than one of a greater rank on its side, if one of them is at the last place.
func (s setting) ranked(places []int) bool {
	end, rank := places[len(places)-1], s.last(places).Rank
	for n, place := range places {
		if s.isLeft(place) != s.isLeft(end) {
			continue
		}
		other, higher := s.last(places[:n+1]).Rank, s.Heights[place]-s.Heights[end]
		if other < rank && higher > 0 || other > rank && higher < 0 {
			return false
		}
	}
	return true
}

func (s setting) suits(places []int, points []point) bool {
	for _, suits := range points {
		if !suits(s, places) {
			return false
		}
	}
	return true
}

// rests reports whether places, as many as there are figures that rest, are an arrangement.
func (s setting) rests(places []int) bool {
	all := points()
	for n := range places {
		if !s.suits(places[:n+1], all[:]) {
			return false
		}
	}
	return true
}

// lists goes through all lists of a place for each figure that rests which suit some points, in order.
func (s setting) lists(points ...point) iter.Seq[[]int] {
	return func(yield func([]int) bool) {
		var search func(places []int) bool
		search = func(places []int) bool {
			if len(places) == len(s.Rest) {
				return yield(slices.Clone(places))
			}
			for place := range s.Heights {
				more := append(places, place)
				if s.suits(more, points) && !search(more) {
					return false
				}
			}
			return true
		}
		search(nil)
	}
}

// arrangements goes through all arrangements of the scene, in order.
func (s setting) arrangements() iter.Seq[[]int] {
	all := points()
	return s.lists(all[:]...)
}

// placesOf returns all places that the n-th figure that rests has in some arrangement.
func (s setting) placesOf(n int) []int {
	has := map[int]bool{}
	for places := range s.arrangements() {
		has[places[n]] = true
	}
	var list []int
	for place := range s.Heights {
		if has[place] {
			list = append(list, place)
		}
	}
	return list
}
