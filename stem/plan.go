package stem

import (
	"slices"

	"kelir/api"
)

// arranged is a play with all arrangements of each of its scenes, in order.
type arranged struct {
	api.StemPlay
	arrangements [][][]int
}

func arrange(p api.StemPlay) arranged {
	a := arranged{StemPlay: p}
	for scene := range len(a.Scenes) {
		a.arrangements = append(a.arrangements, slices.Collect(at(p, scene).arrangements()))
	}
	return a
}

// pair is where a figure is in the Rest of a scene and in that of the next one.
type pair struct{ now, next int }

// pairs returns one for each figure that rests in a scene and in the next one, if there is one.
func pairs(p api.StemPlay, scene int) []pair {
	var list []pair
	if !hasScene(p, scene+1) {
		return nil
	}
	for now, figure := range p.Scenes[scene].Rest {
		if next := slices.Index(p.Scenes[scene+1].Rest, figure); next >= 0 {
			list = append(list, pair{now, next})
		}
	}
	return list
}

func changes(pairs []pair, now, next []int) int {
	count := 0
	for _, both := range pairs {
		if now[both.now] != next[both.next] {
			count++
		}
	}
	return count
}

func changesIn(p api.StemPlay, plan [][]int) int {
	count := 0
	for scene := range len(plan) - 1 {
		count += changes(pairs(p, scene), plan[scene], plan[scene+1])
	}
	return count
}

// course is a plan from some scene on; the one without a rest has no scene.
type course struct {
	places  []int
	rest    *course
	changes int
}

func (c course) lists() [][]int {
	var list [][]int
	for ; c.rest != nil; c = *c.rest {
		list = append(list, c.places)
	}
	return list
}

// best returns the first one of some things with the least cost, if there are any.
func best[T any](things []T, cost func(T) int) (T, bool) {
	var first T
	least := 0
	for n, thing := range things {
		if c := cost(thing); n == 0 || c < least {
			first, least = thing, c
		}
	}
	return first, len(things) > 0
}

// plan returns the first one of the plans with the fewest changes, if there are any plans.
func (a arranged) plan() (course, bool) {
	rests := []course{{}}
	for n := range len(a.Scenes) {
		rests = a.before(len(a.Scenes)-1-n, rests)
	}
	return best(rests, func(c course) int { return c.changes })
}

// before returns the best course for each arrangement of a scene, if rests are those of the scene after it.
func (a arranged) before(scene int, rests []course) []course {
	var list []course
	both := pairs(a.StemPlay, scene)
	for _, places := range a.arrangements[scene] {
		cost := func(rest course) int { return rest.changes + changes(both, places, rest.places) }
		if rest, found := best(rests, cost); found {
			list = append(list, course{places, &rest, cost(rest)})
		}
	}
	return list
}

// with returns a play with those arrangements alone in which the n-th figure that rests in a scene is at a place.
func (a arranged) with(scene, n, place int) arranged {
	elsewhere := func(places []int) bool { return places[n] != place }
	a.arrangements = slices.Clone(a.arrangements)
	a.arrangements[scene] = slices.DeleteFunc(slices.Clone(a.arrangements[scene]), elsewhere)
	return a
}

// bestPlaces returns all places that the n-th figure that rests in a scene has in some best plan.
func (a arranged) bestPlaces(scene, n int) []int {
	first, _ := a.plan()
	var list []int
	for place := range a.Heights {
		other, found := a.with(scene, n, place).plan()
		if found && other.changes == first.changes {
			list = append(list, place)
		}
	}
	return list
}

// wordsOf returns a word for each place, if those in a list are where a figure can be.
func wordsOf(places int, list []int) []api.StemWord {
	var words []api.StemWord
	for place := range places {
		switch {
		case !slices.Contains(list, place):
			words = append(words, api.StemNever)
		case len(list) > 1:
			words = append(words, api.StemMay)
		default:
			words = append(words, api.StemSurely)
		}
	}
	return words
}
