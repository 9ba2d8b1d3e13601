package branch

import (
	"slices"

	"kelir/api"
)

// forgotten stands for a scene that nobody remembers.
const forgotten = -1

// playKey is a play as a key of a map: the numbers of its scenes, each one greater, and 0 behind them.
type playKey [api.BranchLong]int

func keyOf(play []int) playKey {
	var key playKey
	for place, scene := range play {
		key[place] = scene + 1
	}
	return key
}

// plays returns all plays, each once, in order.
func (t tale) plays() [][]int {
	met := map[playKey]bool{}
	var list [][]int
	for d := range t.derivations {
		if key := keyOf(d.play); !met[key] {
			met[key] = true
			list = append(list, d.play)
		}
	}
	slices.SortFunc(list, slices.Compare)
	return list
}

// follows returns the scenes that stand right behind a beginning, in increasing order.
func (t tale) follows(begin []int) []int {
	var list []int
	for _, play := range t.plays() {
		if len(play) > len(begin) && slices.Equal(play[:len(begin)], begin) {
			list = append(list, play[len(begin)])
		}
	}
	// Plays are in order, so those with one scene there follow each other.
	return slices.Compact(list)
}

// agreeing returns all plays that have the scenes that were seen, in order.
func (t tale) agreeing(seen []int) [][]int {
	var list [][]int
search:
	for _, play := range t.plays() {
		if len(play) != len(seen) {
			continue
		}
		for place, scene := range seen {
			if scene != forgotten && scene != play[place] {
				continue search
			}
		}
		list = append(list, play)
	}
	return list
}

// words returns whether each scene is in some plays.
func (t tale) words(plays [][]int) []api.BranchWord {
	var list []api.BranchWord
	for scene := range t.Scenes {
		list = append(list, wordOf(scene, plays))
	}
	return list
}

func wordOf(scene int, plays [][]int) api.BranchWord {
	in := 0
	for _, play := range plays {
		if slices.Contains(play, scene) {
			in++
		}
	}
	switch in {
	case 0:
		return api.BranchNever
	case len(plays):
		return api.BranchSurely
	}
	return api.BranchMay
}
