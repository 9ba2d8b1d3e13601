package branch

import (
	"slices"

	"kelir/api"
	"kelir/night"
)

func argument(good bool) api.Errno {
	if good {
		return api.OK
	}
	return api.ErrArg
}

func within(n, low, high int) bool { return low <= n && n <= high }

func goodStory(s api.BranchStory) bool {
	if !within(s.Episodes, 1, api.BranchEpisodes) || !within(len(s.Scenes), 1, api.BranchScenes) || !within(len(s.Rules), 1, api.BranchRules) {
		return false
	}
	badScene := func(scene api.BranchScene) bool { return !goodScene(scene) }
	badRule := func(rule api.BranchRule) bool { return !goodRule(s, rule) }
	if slices.ContainsFunc(s.Scenes, badScene) || slices.ContainsFunc(s.Rules, badRule) {
		return false
	}
	all := growths(s)[0]
	return all.ways <= api.BranchWays && all.long <= api.BranchLong
}

// goodScene leaves it to layer 3: a scene is as defined if a plan with it alone is.
func goodScene(scene api.BranchScene) bool {
	return night.Check(api.NightPlan{Scenes: []api.NightScene{nightScene(scene)}}) == api.OK
}

// goodNight leaves it to layer 3: a night is as defined if a plan with any scene is.
func goodNight(n api.BranchEvening) bool {
	p := planOf(n)
	p.Scenes = []api.NightScene{nightScene(api.BranchScene{Least: 1, Most: 1})}
	return night.Check(p) == api.OK
}

func goodRule(s api.BranchStory, rule api.BranchRule) bool {
	bad := func(motif int) bool { return !within(motif, rule.From+1, motifs(s)-1) }
	return within(rule.From, 0, s.Episodes-1) && within(len(rule.To), 1, api.BranchTo) && !slices.ContainsFunc(rule.To, bad)
}

func goodPlay(s api.BranchStory, play []int) bool { return goodList(s, play, 0) }

func goodSeen(s api.BranchStory, seen []int) bool { return goodList(s, seen, forgotten) }

// goodList reports whether a list is not too long, and has numbers from a least one to that of the last scene.
func goodList(s api.BranchStory, list []int, least int) bool {
	bad := func(n int) bool { return !within(n, least, len(s.Scenes)-1) }
	return len(list) <= api.BranchLong && !slices.ContainsFunc(list, bad)
}
