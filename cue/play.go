package cue

import (
	"iter"
	"slices"

	"kelir/api"
)

// unnoted stands for a tune that was not noted, and for any tune.
const unnoted = -1

// player is a version in a state.
type player struct {
	api.CueVersion
	state int
}

// beginner returns a version in the state in which it begins.
func beginner(v api.CueVersion) player { return player{v, 0} }

// tune returns what is played with a cue.
func (p player) tune(cue int) int { return p.States[p.state][cue].Tune }

// next returns the state to which a cue leads.
func (p player) next(cue int) int { return p.States[p.state][cue].Next }

func (p player) after(cue int) player {
	p.state = p.next(cue)
	return p
}

// play returns what is played for a list of cues, and the player after it.
func (p player) play(cues []int) ([]int, player) {
	var tunes []int
	for _, cue := range cues {
		tunes = append(tunes, p.tune(cue))
		p = p.after(cue)
	}
	return tunes, p
}

func matches(tune, heard int) bool { return heard == unnoted || heard == tune }

func agrees(v api.CueVersion, e api.CueEvening) bool {
	tunes, _ := beginner(v).play(e.Cues)
	for n, tune := range tunes {
		if !matches(tune, e.Tunes[n]) {
			return false
		}
	}
	return true
}

func agreesWithAll(v api.CueVersion, evenings []api.CueEvening) bool {
	for _, e := range evenings {
		if !agrees(v, e) {
			return false
		}
	}
	return true
}

// remains returns the numbers of the versions that remain after evenings.
func remains(b api.CueBook, evenings []api.CueEvening) []int {
	var list []int
	for n, v := range b.Versions {
		if agreesWithAll(v, evenings) {
			list = append(list, n)
		}
	}
	return list
}

// noneRemains is why versions are given up: none of them agrees with what was heard.
type noneRemains struct{}

// remaining returns the versions that remain after evenings. It gives up if there are none.
func remaining(b api.CueBook, evenings []api.CueEvening) []api.CueVersion {
	var list []api.CueVersion
	for _, n := range remains(b, evenings) {
		list = append(list, b.Versions[n])
	}
	if len(list) == 0 {
		panic(noneRemains{})
	}
	return list
}

// left returns the versions that remain after evenings.
func left(b api.CueBook, evenings []api.CueEvening) (versions []api.CueVersion, e api.Errno) {
	defer func() {
		switch found := recover().(type) {
		case nil:
		case noneRemains:
			versions, e = nil, api.ErrRule
		default:
			panic(found)
		}
	}()
	return remaining(b, evenings), api.OK
}

// leftNow returns the versions that remain after evenings, in the states to which what is going on now leads.
func leftNow(b api.CueBook, evenings []api.CueEvening, now api.CueEvening) ([]player, api.Errno) {
	versions, e := left(b, append(slices.Clone(evenings), now))
	var players []player
	for _, v := range versions {
		_, p := beginner(v).play(now.Cues)
		players = append(players, p)
	}
	return players, e
}

// sure returns, for each cue, the tune that all versions play, or -1.
func sure(versions []api.CueVersion, cues []int) []int {
	var out []int
	for _, v := range versions {
		tunes, _ := beginner(v).play(cues)
		if out == nil {
			out = tunes
		}
		for n, tune := range tunes {
			if tune != out[n] {
				out[n] = unnoted
			}
		}
	}
	return out
}

// cueList has the cues of a list, and 0 behind them.
type cueList [api.CueLong]int

// lists goes through all lists of cues for which a version plays tunes, in order.
func lists(v api.CueVersion, cues int, tunes []int) iter.Seq[cueList] {
	return func(yield func(cueList) bool) {
		var list cueList
		var give func(p player, n int) bool
		give = func(p player, n int) bool {
			if n == len(tunes) {
				return yield(list)
			}
			for cue := range cues {
				if !matches(p.tune(cue), tunes[n]) {
					continue
				}
				list[n] = cue
				if !give(p.after(cue), n+1) {
					return false
				}
			}
			return true
		}
		give(beginner(v), 0)
	}
}

// best returns the first one of some things with the least cost, if there are any.
func best[T any](things iter.Seq[T], cost func(T) int) (T, bool) {
	var first T
	least, found := 0, false
	for thing := range things {
		if c := cost(thing); !found || c < least {
			first, least, found = thing, c, true
		}
	}
	return first, found
}
