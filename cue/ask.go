package cue

import (
	"maps"
	"slices"

	"kelir/api"
)

// guess has the state of each version that remains, and gone for the others.
type guess [api.CueVersions]int

const gone = -1

func nobody() guess {
	var g guess
	for n := range g {
		g[n] = gone
	}
	return g
}

func guessOf(players []player) guess {
	g := nobody()
	for n, p := range players {
		g[n] = p.state
	}
	return g
}

// asker finds the ways to settle which of some versions it is.
type asker struct {
	cues    int
	players []player
	pairs   []pair
	// guesses are all that can come.
	guesses []guess
	// numbers has the least number of ways for those guesses from which there is a way.
	numbers map[guess]int
}

func askerOf(cues int, players []player) *asker {
	var versions []api.CueVersion
	for _, p := range players {
		versions = append(versions, p.CueVersion)
	}
	a := &asker{cues: cues, players: players, pairs: unlike(cues, versions), numbers: map[guess]int{}}
	a.explore()
	a.count()
	return a
}

func (a *asker) settled(g guess) bool {
	remain := func(p pair) bool { return g[p[0]] != gone && g[p[1]] != gone }
	return !slices.ContainsFunc(a.pairs, remain)
}

// after returns the guesses to which a cue may lead, one for each tune that may be played.
func (a *asker) after(g guess, cue int) []guess {
	var list []guess
	for tune := range api.CueTunes {
		to := nobody()
		for n, p := range a.players {
			p.state = g[n]
			if p.state != gone && p.tune(cue) == tune {
				to[n] = p.next(cue)
			}
		}
		if to != nobody() {
			list = append(list, to)
		}
	}
	return list
}

func (a *asker) explore() {
	from := guessOf(a.players)
	a.guesses = []guess{from}
	met := map[guess]bool{from: true}
	for n := 0; n < len(a.guesses); n++ {
		if a.settled(a.guesses[n]) {
			a.numbers[a.guesses[n]] = 0
			continue
		}
		for cue := range a.cues {
			for _, to := range a.after(a.guesses[n], cue) {
				if !met[to] {
					met[to] = true
					a.guesses = append(a.guesses, to)
				}
			}
		}
	}
}

// count finds the numbers, the least ones first.
func (a *asker) count() {
	for more := true; more; {
		// Guesses of the same number must not be counted by means of each other.
		counted := map[guess]int{}
		for _, g := range a.guesses {
			if _, known := a.numbers[g]; known {
				continue
			}
			if _, number, found := a.first(g); found {
				counted[g] = number
			}
		}
		maps.Copy(a.numbers, counted)
		more = len(counted) > 0
	}
}

// need returns how many cues are needed, at most, if a cue is given, or false as long as no way is known.
func (a *asker) need(g guess, cue int) (int, bool) {
	most := 0
	for _, to := range a.after(g, cue) {
		number, known := a.numbers[to]
		if !known {
			return 0, false
		}
		most = max(most, number)
	}
	return most + 1, true
}

// first returns the cue with which the best way begins, and its number, or false as long as no way is known.
func (a *asker) first(g guess) (int, int, bool) {
	var list []int
	for cue := range a.cues {
		if _, known := a.need(g, cue); known {
			list = append(list, cue)
		}
	}
	number := func(cue int) int {
		n, _ := a.need(g, cue)
		return n
	}
	cue, found := best(slices.Values(list), number)
	if !found {
		return 0, 0, false
	}
	return cue, number(cue), true
}

// ask returns the first cue of the best way to settle which of some versions it is, and the number of this way, if there is any.
func ask(cues int, players []player) (int, int, bool) {
	a := askerOf(cues, players)
	now := guessOf(players)
	if a.settled(now) {
		return -1, 0, true
	}
	return a.first(now)
}
