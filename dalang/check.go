package dalang

import (
	"kelir/api"
	"kelir/chest"
	"kelir/cue"
	"kelir/hide"
	"kelir/night"
	"kelir/stem"
)

func within(n, low, high int) bool { return low <= n && n <= high }

// find returns the place of the first thing of a list that is as it is asked for, if there is any.
func find[T any](list []T, is func(T) bool) (int, bool) {
	for n, thing := range list {
		if is(thing) {
			return n, true
		}
	}
	return 0, false
}

// isPossible reports whether a plan is as defined, and possible.
func isPossible(p api.NightPlan) bool {
	_, _, e := night.Programme(p)
	return e == api.OK
}

func goodSuite(s api.DalangSuite) bool {
	return isPossible(s.Plan) && goodLists(s) && len(s.Play.Figures) == len(s.Register.Hides) && len(s.Play.Figures) == len(s.Chest.Figures)
}

// goodLists leaves all but the plan to their layers.
func goodLists(s api.DalangSuite) bool {
	all := []api.Errno{cue.Check(s.Book), stem.Check(s.Play), hide.Check(s.Register), chest.Check(s.Chest)}
	_, bad := find(all, func(e api.Errno) bool { return e != api.OK })
	return !bad
}

func goodEntry(x api.DalangEntry) bool {
	_, bad := find(x.Numbers, func(n int) bool { return !within(n, 0, api.DalangNumber) })
	return api.DalangWait <= x.Kind && x.Kind <= api.DalangUndo && wordOf(x.Kind).takes(x.Numbers) && !bad
}

// goodQuestion leaves it to the answers whether there is a tune, a scene or a figure with the number.
func goodQuestion(q api.DalangQuestion) bool {
	return api.DalangNight <= q.Kind && q.Kind <= api.DalangStands && wordOfTopic(q.Kind).takes(q.Numbers)
}
