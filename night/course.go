package night

import (
	"slices"

	"kelir/api"
)

// course is a plan of which a choice is played, with the minutes that its programmes that fit can reach.
type course struct {
	api.NightPlan
	choice []int
	start  minutes
	played map[int]stay
	ends   [parts]minutes
}

// stay is when a scene that is played can begin and end.
type stay struct{ begins, ends minutes }

// lost is why a choice is given up: the part that cannot end in its window.
type lost struct {
	part  int
	fault api.NightFault
}

// courseOf returns the course of a choice whose play begins at some of these minutes, or where it fails (with a fault).
func courseOf(p api.NightPlan, choice []int, start minutes) (c course, failed lost) {
	defer func() {
		switch found := recover().(type) {
		case nil:
		case lost:
			c, failed = course{}, found
		default:
			panic(found)
		}
	}()
	c = course{NightPlan: p, choice: choice, start: start, played: map[int]stay{}}
	c.reach()
	c.keep()
	return c, lost{}
}

// reach finds the minutes that can be reached from the start on, whatever follows.
func (c *course) reach() {
	now := c.start
	for part := range parts {
		for _, n := range in(c.NightPlan, c.choice, part) {
			begins := now
			now = now.plus(c.lengths(n))
			c.played[n] = stay{begins, now}
		}
		now = c.end(part, now)
		c.ends[part] = now
	}
}

// end returns the minutes in a part's window, of those at which it can end.
func (c *course) end(part int, now minutes) minutes {
	window := windows(c.NightPlan)[part]
	if !now.both(window).none() {
		return now.both(window)
	}
	if now.High < window.Low {
		panic(lost{part, api.NightShort})
	}
	panic(lost{part, api.NightOver})
}

// keep leaves those of the reached minutes from which the night can be ended.
func (c *course) keep() {
	now := c.ends[parts-1]
	for part := parts - 1; part >= 0; part-- {
		// The next part begins when this one ends, so no other minutes are left for the end.
		c.ends[part] = now
		for _, n := range slices.Backward(in(c.NightPlan, c.choice, part)) {
			ends := now
			now = ends.minus(c.lengths(n)).both(c.played[n].begins)
			c.played[n] = stay{now, ends}
		}
	}
	c.start = now
}

func (c *course) lengths(scene int) minutes { return lasts(c.NightPlan, []int{scene}) }

// kept returns the lengths of a scene that is played with which the choice fits.
func (c *course) kept(scene int) minutes {
	s := c.played[scene]
	return s.ends.minus(s.begins).both(c.lengths(scene))
}

// firstLengths returns the first list of lengths with which the choice fits.
func (c *course) firstLengths() []int {
	now := c.Begin
	var list []int
	for _, n := range c.choice {
		length := max(c.Scenes[n].Least, c.played[n].ends.Low-now)
		list = append(list, length)
		now += length
	}
	return list
}

// courses returns those of all choices that can be played.
func courses(p api.NightPlan) []course { return coursesFrom(p, at(p.Begin)) }

// coursesFrom returns those of all choices that can be played if the play begins at some of these minutes.
func coursesFrom(p api.NightPlan, start minutes) []course {
	var list []course
	for choice := range choices(p) {
		if c, failed := courseOf(p, choice, start); failed.fault == 0 {
			list = append(list, c)
		}
	}
	return list
}

func orderOfCourses(a, b course) int { return order(a.choice, b.choice) }

// inAll returns the bounds of some minutes in all courses in which a scene is played.
func inAll(p api.NightPlan, scene int, of func(course) minutes) (api.Span, api.Errno) {
	if !goodPlan(p) || !goodScene(p, scene) {
		return api.Span{}, api.ErrArg
	}
	all := courses(p)
	if len(all) == 0 {
		return api.Span{}, api.ErrRule
	}
	var list []minutes
	for _, c := range all {
		if _, is := c.played[scene]; is {
			list = append(list, of(c))
		}
	}
	if len(list) == 0 {
		return api.Span{}, api.ErrNone
	}
	return api.Span(bounds(list)), api.OK
}

// howPlayed returns whether a scene is played in these courses.
func howPlayed(all []course, scene int) api.NightWord {
	played := 0
	for _, c := range all {
		if _, is := c.played[scene]; is {
			played++
		}
	}
	switch played {
	case 0:
		return api.NightNever
	case len(all):
		return api.NightSurely
	}
	return api.NightMay
}
