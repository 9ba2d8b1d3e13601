package night

import "kelir/api"

func argument(good bool) api.Errno {
	if good {
		return api.OK
	}
	return api.ErrArg
}

func within(n, low, high int) bool { return low <= n && n <= high }

func goodWindow(m minutes) bool {
	return within(m.Low, 0, api.NightMinutes) && within(m.High, m.Low, api.NightMinutes) && m.High-m.Low <= api.NightWide
}

func goodPlan(p api.NightPlan) bool {
	if !within(p.Begin, 0, api.NightMinutes) || !within(len(p.Scenes), 1, api.NightScenes) {
		return false
	}
	for _, window := range windows(p) {
		if !goodWindow(window) {
			return false
		}
	}
	part, loose := 0, 0
	for n, s := range p.Scenes {
		if !within(s.Part, part, parts-1) || !goodLengths(s) || !goodWants(p, n) {
			return false
		}
		part = s.Part
		if s.Loose {
			loose++
		}
	}
	return loose <= api.NightLoose
}

func goodLengths(s api.NightScene) bool {
	return within(s.Least, 1, api.NightLong) && within(s.Most, s.Least, api.NightLong)
}

func goodWants(p api.NightPlan, scene int) bool {
	wants := p.Scenes[scene].Wants
	return wants == -1 || goodScene(p, wants) && wants != scene
}

func goodScene(p api.NightPlan, scene int) bool { return within(scene, 0, len(p.Scenes)-1) }

// goodList reports whether a list has numbers of scenes in increasing order.
func goodList(p api.NightPlan, list []int) bool {
	before := -1
	for _, n := range list {
		if !goodScene(p, n) || n <= before {
			return false
		}
		before = n
	}
	return true
}

func goodChoice(p api.NightPlan, list []int) bool { return goodList(p, list) && isChoice(p, list) }

func goodProgramme(p api.NightPlan, choice, lengths []int) bool {
	if !goodChoice(p, choice) || len(lengths) != len(choice) {
		return false
	}
	for i, n := range choice {
		if !within(lengths[i], p.Scenes[n].Least, p.Scenes[n].Most) {
			return false
		}
	}
	return true
}
