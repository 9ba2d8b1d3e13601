package cue

import (
	"slices"

	"kelir/api"
)

// place is where one of some versions is: its state, and a mark for what it played.
type place struct{ state, mark int }

// moment has the places of versions that are played side by side, and zero values behind them.
type moment [api.CueVersions]place

// trail is a moment, and the first list of cues that leads to it.
type trail struct {
	end  moment
	cues []int
}

// search returns the first list of cues that leads from a moment to one that is wanted, if there is any.
func search(cues int, from moment, next func(m moment, cue int) moment, wanted func(moment) bool) ([]int, bool) {
	if wanted(from) {
		return nil, true
	}
	var list []int
	met := map[moment]bool{from: true}
looking:
	for queue := []trail{{from, nil}}; len(queue) > 0; queue = queue[1:] {
		for cue := range cues {
			to := next(queue[0].end, cue)
			if met[to] {
				continue
			}
			met[to] = true
			there := append(slices.Clone(queue[0].cues), cue)
			if wanted(to) {
				list = there
				break looking
			}
			queue = append(queue, trail{to, there})
		}
	}
	return list, len(list) > 0
}
