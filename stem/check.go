package stem

import (
	"slices"

	"kelir/api"
)

const (
	handsOfFigure = 2
	mostKnocks    = 2
)

func argument(good bool) api.Errno {
	if good {
		return api.OK
	}
	return api.ErrArg
}

func within(n, low, high int) bool { return low <= n && n <= high }

func goodPlay(p api.StemPlay) bool {
	return goodStem(p) && goodFigures(p.Figures) && goodScenes(p)
}

func goodStem(p api.StemPlay) bool {
	if !within(len(p.Heights), 1, api.StemPlaces) {
		return false
	}
	for _, height := range p.Heights {
		if !within(height, 1, api.StemRank) {
			return false
		}
	}
	return within(p.Left, 0, len(p.Heights))
}

func goodFigures(figures []api.StemFigure) bool {
	if !within(len(figures), 1, api.StemFigures) {
		return false
	}
	for _, f := range figures {
		if f.Side < api.StemLeft || f.Side > api.StemEither || !within(f.Rank, 1, api.StemRank) || !within(f.Hands, 1, handsOfFigure) {
			return false
		}
	}
	return true
}

func goodScenes(p api.StemPlay) bool {
	if !within(len(p.Scenes), 1, api.StemScenes) {
		return false
	}
	for _, s := range p.Scenes {
		if !goodScene(p, s) {
			return false
		}
	}
	return true
}

func goodScene(p api.StemPlay, s api.StemScene) bool {
	if !increasing(s.Moved, len(p.Figures)) || !increasing(s.Rest, len(p.Figures)) || !increasing(s.Taken, len(p.Heights)) {
		return false
	}
	moved := func(figure int) bool { return slices.Contains(s.Moved, figure) }
	return !slices.ContainsFunc(s.Rest, moved) && len(s.Rest) <= api.StemRest && within(s.Knocks, 0, mostKnocks)
}

// increasing reports whether a list has numbers from 0 on, less than a limit, in increasing order.
func increasing(list []int, limit int) bool {
	before := -1
	for _, n := range list {
		if !within(n, before+1, limit-1) {
			return false
		}
		before = n
	}
	return true
}

func hasScene(p api.StemPlay, scene int) bool { return within(scene, 0, len(p.Scenes)-1) }

func restsIn(p api.StemPlay, scene, figure int) bool {
	return slices.Contains(p.Scenes[scene].Rest, figure)
}

// goodPlaces reports whether a list has a place of the stem for each figure that rests in a scene.
func goodPlaces(p api.StemPlay, scene int, places []int) bool {
	for _, place := range places {
		if !within(place, 0, len(p.Heights)-1) {
			return false
		}
	}
	return len(places) == len(p.Scenes[scene].Rest)
}

func goodPlan(p api.StemPlay, plan [][]int) bool {
	if len(plan) != len(p.Scenes) {
		return false
	}
	for scene, places := range plan {
		if !goodPlaces(p, scene, places) || !at(p, scene).rests(places) {
			return false
		}
	}
	return true
}
