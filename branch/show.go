package branch

import (
	"slices"

	"kelir/api"
	"kelir/night"
)

// noWants is what a scene of a night has that wants no other one.
const noWants = -1

// planOf returns the plan of a night, still without scenes.
func planOf(n api.BranchEvening) api.NightPlan {
	return api.NightPlan{Begin: n.Begin, Stars: n.Stars, Dawn: n.Dawn}
}

func nightScene(s api.BranchScene) api.NightScene {
	return api.NightScene{Part: s.Part, Least: s.Least, Most: s.Most, Loose: s.Loose, Wants: noWants}
}

// show is a story with one of its plays, and a night.
type show struct {
	api.BranchStory
	play    []int
	evening api.BranchEvening
}

// plan returns the plan of the play for the night.
func (s show) plan() api.NightPlan {
	p := planOf(s.evening)
	for _, n := range s.play {
		p.Scenes = append(p.Scenes, nightScene(s.Scenes[n]))
	}
	return p
}

func (s show) lacksFormula() bool {
	for n, scene := range s.Scenes {
		if scene.Formula && !slices.Contains(s.play, n) {
			return true
		}
	}
	return false
}

// disordered leaves it to layer 3: with scenes and a night that are as defined, a falling Part and too many Loose scenes are all that keeps the plan from being one.
func (s show) disordered() bool { return night.Check(s.plan()) != api.OK }

func (s show) impossible() bool {
	_, _, e := night.Programme(s.plan())
	return e != api.OK
}

// judged is why a play is given up: it has got a verdict.
type judged struct{ verdict api.BranchVerdict }

// inspect gives the play up at the first thing that keeps it from fitting.
func (s show) inspect() {
	for n, is := range [...]func() bool{s.lacksFormula, s.disordered, s.impossible} {
		if is() {
			panic(judged{api.BranchFormula + api.BranchVerdict(n)})
		}
	}
}

func (s show) verdict() (v api.BranchVerdict) {
	defer func() {
		switch given := recover().(type) {
		case nil:
		case judged:
			v = given.verdict
		default:
			panic(given)
		}
	}()
	s.inspect()
	return api.BranchFits
}

func (s show) fits() bool { return s.verdict() == api.BranchFits }

// shows returns those of all plays, in order.
func (t tale) shows(n api.BranchEvening) []show {
	var list []show
	for _, play := range t.plays() {
		list = append(list, show{t.BranchStory, play, n})
	}
	return list
}

// fitting returns those of all plays that fit, in order.
func (t tale) fitting(n api.BranchEvening) []show {
	return slices.DeleteFunc(t.shows(n), func(s show) bool { return !s.fits() })
}

// begins returns, for each play that fits with some Begin, the least and the greatest one.
func (t tale) begins(n api.BranchEvening) []api.Span {
	var list []api.Span
	for _, s := range t.shows(n) {
		// Whatever the Begin is, a formula that is lacked is lacked; and with a play that is disordered there is no plan that starts.
		if s.lacksFormula() {
			continue
		}
		if span, e := night.Starts(s.plan()); e == api.OK {
			list = append(list, span)
		}
	}
	return list
}

// bounds returns the span from the least to the greatest number of spans, of which there are some.
func bounds(spans []api.Span) api.Span {
	all := spans[0]
	for _, span := range spans {
		all = api.Span{Low: min(all.Low, span.Low), High: max(all.High, span.High)}
	}
	return all
}
