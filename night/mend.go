package night

import (
	"slices"
	"sort"

	"kelir/api"
)

func possible(p api.NightPlan) bool {
	for choice := range choices(p) {
		if _, failed := courseOf(p, choice, at(p.Begin)); failed.fault == 0 {
			return true
		}
	}
	return false
}

// lengthened returns a plan in which the Most of a scene is greater.
func lengthened(p api.NightPlan, scene, by int) api.NightPlan {
	p.Scenes = slices.Clone(p.Scenes)
	p.Scenes[scene].Most += by
	return p
}

// longer returns by how much, at least, the Most of a scene has to be greater.
func longer(p api.NightPlan, scene int) (int, bool) {
	// With a greater Most no plan becomes impossible, so the search may halve what is left.
	by := sort.Search(api.NightMinutes+1, func(by int) bool { return possible(lengthened(p, scene, by)) })
	return by, by <= api.NightMinutes
}
