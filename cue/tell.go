package cue

import (
	"slices"

	"kelir/api"
)

// momentOf returns the moment in which nothing was played yet.
func momentOf(players ...player) moment {
	var m moment
	for n, p := range players {
		m[n].state = p.state
	}
	return m
}

// heard returns what follows a moment in which each version is marked with the first one that has played the same.
func heard(players []player, m moment, cue int) moment {
	var out moment
	var tunes [api.CueVersions]int
	for n, p := range players {
		p.state = m[n].state
		tunes[n] = p.tune(cue)
		out[n] = place{p.next(cue), n}
		for other := range n {
			if m[other].mark == m[n].mark && tunes[other] == tunes[n] {
				out[n].mark = out[other].mark
				break
			}
		}
	}
	return out
}

// tell returns the first list of cues for which two players play differently, if there is any.
func tell(cues int, one, other player) ([]int, bool) {
	next := func(m moment, cue int) moment { return heard([]player{one, other}, m, cue) }
	return search(cues, momentOf(one, other), next, func(m moment) bool { return m[0].mark != m[1].mark })
}

func alike(cues int, one, other player) bool {
	_, told := tell(cues, one, other)
	return !told
}

// allAlike reports whether all of some players play alike.
func allAlike(cues int, players []player) bool {
	for _, p := range players {
		if !alike(cues, players[0], p) {
			return false
		}
	}
	return true
}

func beginners(versions []api.CueVersion) []player {
	var list []player
	for _, v := range versions {
		list = append(list, beginner(v))
	}
	return list
}

// pair is the numbers of two versions.
type pair [2]int

// unlike returns all pairs of versions that are not alike.
func unlike(cues int, versions []api.CueVersion) []pair {
	var list []pair
	for n, v := range versions {
		for other := range n {
			if !alike(cues, beginner(versions[other]), beginner(v)) {
				list = append(list, pair{other, n})
			}
		}
	}
	return list
}

// settle returns the first list of cues that settles which of some versions it is, if there is any.
func settle(cues int, versions []api.CueVersion) ([]int, bool) {
	players, pairs := beginners(versions), unlike(cues, versions)
	next := func(m moment, cue int) moment { return heard(players, m, cue) }
	return search(cues, momentOf(players...), next, func(m moment) bool {
		same := func(p pair) bool { return m[p[0]].mark == m[p[1]].mark }
		return !slices.ContainsFunc(pairs, same)
	})
}

// join returns the first list of cues after which the states of some versions play alike, if there is any.
func join(cues int, versions []api.CueVersion) ([]int, bool) {
	at := func(m moment) []player {
		players := beginners(versions)
		for n := range players {
			players[n].state = m[n].state
		}
		return players
	}
	next := func(m moment, cue int) moment {
		players := at(m)
		for n, p := range players {
			players[n] = p.after(cue)
		}
		return momentOf(players...)
	}
	return search(cues, momentOf(beginners(versions)...), next, func(m moment) bool { return allAlike(cues, at(m)) })
}

// reduce returns the version with the fewest states that is alike to a version.
func reduce(cues int, v api.CueVersion) api.CueVersion {
	// first returns the first state that plays like a state.
	first := func(state int) int {
		n := 0
		for !alike(cues, player{v, n}, player{v, state}) {
			n++
		}
		return n
	}
	kept := []int{0}
	for n := 0; n < len(kept); n++ {
		for cue := range cues {
			if to := first(player{v, kept[n]}.next(cue)); !slices.Contains(kept, to) {
				kept = append(kept, to)
			}
		}
	}
	var out api.CueVersion
	for _, state := range kept {
		var moves []api.CueMove
		for cue := range cues {
			p := player{v, state}
			moves = append(moves, api.CueMove{Next: slices.Index(kept, first(p.next(cue))), Tune: p.tune(cue)})
		}
		out.States = append(out.States, moves)
	}
	return out
}
