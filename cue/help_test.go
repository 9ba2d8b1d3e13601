package cue_test

import (
	"fmt"
	"math"
	"math/rand/v2"
	"slices"
	"testing"

	"kelir/api"
)

func l(n ...int) []int { return n }

// moves returns the moves of a state: the next state and the tune, one after the other.
func moves(n ...int) []api.CueMove {
	var out []api.CueMove
	for i := 0; i < len(n); i += 2 {
		out = append(out, api.CueMove{Next: n[i], Tune: n[i+1]})
	}
	return out
}

func version(states ...[]api.CueMove) api.CueVersion { return api.CueVersion{States: states} }

func book(cues, tunes int, versions ...api.CueVersion) api.CueBook {
	return api.CueBook{Cues: cues, Tunes: tunes, Versions: versions}
}

func evening(cues, tunes []int) api.CueEvening { return api.CueEvening{Cues: cues, Tunes: tunes} }

func evenings(list ...api.CueEvening) []api.CueEvening { return list }

func nothing() api.CueEvening { return api.CueEvening{} }

// bookB is the book b of the chapter.
func bookB() api.CueBook {
	return book(2, 3,
		version(moves(1, 0, 0, 1), moves(0, 2, 1, 1)),
		version(moves(1, 0, 0, 1), moves(0, 2, 0, 1)),
		version(moves(0, 0, 0, 1)),
		version(moves(0, 1, 1, 1), moves(1, 0, 1, 1)))
}

// eveningE and eveningG are the evenings e and g of the chapter; with eveningN no version of its book agrees.
func eveningE() api.CueEvening { return evening(l(0, 0), l(0, 2)) }

func eveningG() api.CueEvening { return evening(l(1, 0, 0), l(1, 0, 0)) }

func eveningN() api.CueEvening { return evening(l(0), l(2)) }

// lostBook has versions that cannot be told apart any more once one of them was: the first cue is the only one with which they differ, the version 0 with the cue 0 and the version 2 with the cue 1.
func lostBook() api.CueBook {
	return book(2, 2,
		version(moves(1, 1, 1, 0), moves(1, 0, 1, 0)),
		version(moves(1, 0, 1, 0), moves(1, 0, 1, 0)),
		version(moves(1, 0, 1, 1), moves(1, 0, 1, 0)))
}

// forkBook has versions that no list of cues settles, but a way does: which cue is the right one depends on the first tune.
func forkBook() api.CueBook {
	rest := moves(2, 0, 2, 0, 2, 0)
	return book(3, 2,
		version(moves(1, 0, 0, 0, 0, 0), moves(2, 0, 1, 1, 2, 0), rest),
		version(moves(1, 0, 0, 0, 0, 0), moves(2, 0, 1, 0, 2, 0), rest),
		version(moves(1, 1, 0, 0, 0, 0), moves(2, 0, 2, 0, 2, 1), rest),
		version(moves(1, 1, 0, 0, 0, 0), moves(2, 0, 2, 0, 2, 0), rest))
}

// longBook has versions that are told from each other one after the other: to settle which one it is needs more cues than are given on any evening.
func longBook() api.CueBook {
	rest := moves(3, 0, 3, 0)
	return book(2, 3,
		version(moves(0, 0, 1, 0), moves(2, 0, 0, 0), moves(2, 2, 0, 0), rest),
		version(moves(0, 0, 1, 0), moves(2, 0, 2, 2), moves(2, 2, 3, 0), rest),
		version(moves(0, 0, 1, 0), moves(2, 0, 3, 0), moves(2, 2, 0, 0), rest),
		version(moves(0, 0, 3, 0), moves(0, 0, 3, 0), moves(2, 2, 3, 0), rest))
}

// turningVersion has four states, which the first cue turns; the second one leads from the last state to the first one. It begins in any of them, and only the first cue in the first state plays another tune.
func turningVersion(begin int) api.CueVersion {
	var v api.CueVersion
	for n := range 4 {
		state := (n + begin) % 4
		turn := moves((n+1)%4, 0, n, 0)
		if state == 3 {
			turn[1].Next = (n + 1) % 4
		}
		if state == 0 {
			turn[0].Tune = 1
		}
		v.States = append(v.States, turn)
	}
	return v
}

// turningBook has the turning version from each of its states.
func turningBook() api.CueBook {
	return book(2, 2, turningVersion(0), turningVersion(1), turningVersion(2), turningVersion(3))
}

// greatestBook has the most cues, tunes, versions and states.
func greatestBook() api.CueBook {
	v := version(slices.Repeat([][]api.CueMove{moves(3, 5, 3, 5, 3, 5, 3, 5)}, 4)...)
	return book(4, 6, v, v, v, v)
}

func smallBook() api.CueBook { return book(1, 2, version(moves(0, 1))) }

func copyOf(b api.CueBook) api.CueBook {
	b.Versions = slices.Clone(b.Versions)
	for n, v := range b.Versions {
		states := slices.Clone(v.States)
		for state := range states {
			states[state] = slices.Clone(states[state])
		}
		b.Versions[n].States = states
	}
	return b
}

func with(b api.CueBook, change func(*api.CueBook)) api.CueBook {
	b = copyOf(b)
	change(&b)
	return b
}

func badBooks() []api.CueBook {
	out := []api.CueBook{{}, {Cues: 2, Tunes: 3, Versions: []api.CueVersion{}}, book(2, 3, version()), book(2, 3, api.CueVersion{States: [][]api.CueMove{}})}
	for _, n := range l(-1, math.MinInt, math.MaxInt) {
		out = append(out,
			with(bookB(), func(b *api.CueBook) { b.Cues = n }),
			with(bookB(), func(b *api.CueBook) { b.Tunes = n }),
			with(bookB(), func(b *api.CueBook) { b.Versions[0].States[1][0].Next = n }),
			with(bookB(), func(b *api.CueBook) { b.Versions[3].States[0][1].Next = n }),
			with(bookB(), func(b *api.CueBook) { b.Versions[2].States[0][0].Tune = n }),
			with(bookB(), func(b *api.CueBook) { b.Versions[3].States[1][1].Tune = n }))
	}
	for _, change := range []func(*api.CueBook){
		func(b *api.CueBook) { b.Cues = 0 },
		func(b *api.CueBook) { b.Cues = 1 },
		func(b *api.CueBook) { b.Cues = 3 },
		func(b *api.CueBook) { b.Tunes = 0 },
		func(b *api.CueBook) { b.Tunes = 2 },
		func(b *api.CueBook) { b.Tunes = 7 },
		func(b *api.CueBook) { b.Versions = nil },
		func(b *api.CueBook) { b.Versions = append(b.Versions, b.Versions[0]) },
		func(b *api.CueBook) { b.Versions[3].States = nil },
		func(b *api.CueBook) { b.Versions[3].States = slices.Repeat(b.Versions[2].States, 5) },
		func(b *api.CueBook) { b.Versions[0].States[0] = nil },
		func(b *api.CueBook) { b.Versions[0].States[1] = moves(0, 0) },
		func(b *api.CueBook) { b.Versions[3].States[1] = moves(0, 0, 0, 0, 0, 0) },
		func(b *api.CueBook) { b.Versions[0].States[0][0].Next = 2 },
		func(b *api.CueBook) { b.Versions[2].States[0][1].Next = 1 },
		func(b *api.CueBook) { b.Versions[3].States[1][1].Tune = 3 },
		// cues that are too many, with moves for each of them
		func(b *api.CueBook) {
			b.Cues, b.Versions = 5, []api.CueVersion{version(moves(0, 0, 0, 0, 0, 0, 0, 0, 0, 0))}
		},
		func(b *api.CueBook) { b.Cues, b.Versions = 0, []api.CueVersion{version(moves())} },
	} {
		out = append(out, with(bookB(), change))
	}
	return out
}

// badCues are not lists of cues of the book b.
func badCues() [][]int {
	return [][]int{l(2), l(-1), l(0, 1, 2), l(-1, 0), l(math.MinInt), l(0, math.MaxInt), slices.Repeat(l(0), 9), slices.Repeat(l(1), 100)}
}

// badTunes are not lists of tunes, or -1, of the book b.
func badTunes() [][]int {
	return [][]int{l(3), l(-2), l(0, 1, 3), l(-2, 0), l(math.MinInt), l(0, math.MaxInt), slices.Repeat(l(0), 9), slices.Repeat(l(-1), 9)}
}

// badEveningsOfOne are no evenings of the book b.
func badEveningsOfOne() []api.CueEvening {
	out := []api.CueEvening{evening(l(0), nil), evening(nil, l(0)), evening(l(0, 0), l(0)), evening(l(0), l(0, 2)), evening(slices.Repeat(l(0), 9), slices.Repeat(l(-1), 9))}
	for _, cues := range badCues() {
		out = append(out, evening(cues, slices.Repeat(l(-1), len(cues))))
	}
	for _, tunes := range badTunes() {
		out = append(out, evening(slices.Repeat(l(0), len(tunes)), tunes))
	}
	return out
}

// badEvenings are no lists of evenings of the book b.
func badEvenings() [][]api.CueEvening {
	out := [][]api.CueEvening{slices.Repeat(evenings(eveningE()), 5), slices.Repeat(evenings(nothing()), 5), slices.Repeat(evenings(eveningN()), 5)}
	for _, e := range badEveningsOfOne() {
		out = append(out, evenings(e), evenings(eveningE(), eveningG(), e), evenings(e, nothing()))
	}
	return out
}

// badVersions are no versions of the book b.
func badVersions() []int { return l(-1, 4, math.MinInt, math.MaxInt) }

// badTuneNumbers are no tunes of the book b.
func badTuneNumbers() []int { return l(-1, 3, -2, math.MinInt, math.MaxInt) }

func random(seed uint64) *rand.Rand { return rand.New(rand.NewPCG(seed, 4)) }

// randomBook has versions that are like each other, with so many cues, versions and states at most.
func randomBook(g *rand.Rand, cues, versions, states int) api.CueBook {
	b := book(1+g.IntN(cues), 1+max(g.IntN(3), g.IntN(3)))
	many := 1 + max(g.IntN(states), g.IntN(states))
	rare := g.IntN(3)
	move := func() api.CueMove {
		m := api.CueMove{Next: g.IntN(many)}
		if g.IntN(rare+2) == 0 {
			m.Tune = g.IntN(b.Tunes)
		}
		return m
	}
	// From a state in which nothing happens any more no versions can be told apart.
	rest := g.IntN(2) == 0
	var base api.CueVersion
	for state := range many {
		var list []api.CueMove
		for range b.Cues {
			if rest && state == many-1 {
				list = append(list, api.CueMove{Next: state})
			} else {
				list = append(list, move())
			}
		}
		base.States = append(base.States, list)
	}
	for range 1 + max(g.IntN(versions), g.IntN(versions)) {
		b.Versions = append(b.Versions, base)
	}
	b = copyOf(b)
	for _, v := range b.Versions {
		for range g.IntN(4) {
			if state := g.IntN(many); !rest || state < many-1 {
				v.States[state][g.IntN(b.Cues)] = move()
			}
		}
	}
	return b
}

// writtenBook is a book with any numbers that a book can have.
func writtenBook(g *rand.Rand) api.CueBook {
	b := book(1+g.IntN(4), 1+g.IntN(6))
	for range 1 + g.IntN(4) {
		var v api.CueVersion
		many := 1 + g.IntN(4)
		for range many {
			var list []api.CueMove
			for range b.Cues {
				list = append(list, api.CueMove{Next: g.IntN(many), Tune: g.IntN(b.Tunes)})
			}
			v.States = append(v.States, list)
		}
		b.Versions = append(b.Versions, v)
	}
	return b
}

func randomCues(g *rand.Rand, b api.CueBook, most int) []int {
	var list []int
	for range g.IntN(most + 1) {
		list = append(list, g.IntN(b.Cues))
	}
	return list
}

// randomEvening is one with which some version agrees, or nearly.
func randomEvening(g *rand.Rand, b api.CueBook) api.CueEvening {
	cues := randomCues(g, b, 4)
	tunes, _ := slowPlays(b.Versions[g.IntN(len(b.Versions))], 0, cues)
	for n := range tunes {
		switch g.IntN(12) {
		case 0:
			tunes[n] = g.IntN(b.Tunes)
		case 1, 2, 3:
			tunes[n] = -1
		}
	}
	return evening(cues, tunes)
}

func randomEvenings(g *rand.Rand, b api.CueBook) []api.CueEvening {
	var list []api.CueEvening
	for range g.IntN(3) * g.IntN(3) {
		list = append(list, randomEvening(g, b))
	}
	return list
}

// slowPlays returns what is played from a state on, and the state after it.
func slowPlays(v api.CueVersion, state int, cues []int) ([]int, int) {
	tunes := []int{}
	for _, cue := range cues {
		m := v.States[state][cue]
		tunes = append(tunes, m.Tune)
		state = m.Next
	}
	return tunes, state
}

func slowTunes(v api.CueVersion, cues []int) []int {
	tunes, _ := slowPlays(v, 0, cues)
	return tunes
}

// slowLists returns all lists of cues of a length, in lexicographic order.
func slowLists(cues, long int) [][]int {
	out := [][]int{{}}
	for range long {
		var longer [][]int
		for _, list := range out {
			for cue := range cues {
				longer = append(longer, append(slices.Clone(list), cue))
			}
		}
		out = longer
	}
	return out
}

// shortLists returns all lists of cues of up to a length, in order.
func shortLists(cues, long int) [][]int {
	var out [][]int
	for n := range long + 1 {
		out = append(out, slowLists(cues, n)...)
	}
	return out
}

// firstList returns the first list of cues of up to a length that is wanted.
func firstList(cues, long int, wanted func([]int) bool) ([]int, bool) {
	for _, list := range shortLists(cues, long) {
		if wanted(list) {
			return list, true
		}
	}
	return nil, false
}

// slowAlike reports whether two states play alike. Two states that do not are told apart by fewer cues than there are states.
func slowAlike(cues int, v api.CueVersion, state int, w api.CueVersion, other int) bool {
	for _, list := range slowLists(cues, len(v.States)+len(w.States)-1) {
		a, _ := slowPlays(v, state, list)
		b, _ := slowPlays(w, other, list)
		if !slices.Equal(a, b) {
			return false
		}
	}
	return true
}

func slowAgrees(v api.CueVersion, e api.CueEvening) bool {
	for n, tune := range slowTunes(v, e.Cues) {
		if e.Tunes[n] != -1 && e.Tunes[n] != tune {
			return false
		}
	}
	return true
}

func slowRemains(b api.CueBook, list ...api.CueEvening) []int {
	var out []int
	for n, v := range b.Versions {
		agrees := true
		for _, e := range list {
			agrees = agrees && slowAgrees(v, e)
		}
		if agrees {
			out = append(out, n)
		}
	}
	return out
}

// slowUnlike returns all pairs of some versions of a book that are not alike.
func slowUnlike(b api.CueBook, list []int) [][2]int {
	var out [][2]int
	for i, n := range list {
		for _, other := range list[:i] {
			if !slowAlike(b.Cues, b.Versions[other], 0, b.Versions[n], 0) {
				out = append(out, [2]int{other, n})
			}
		}
	}
	return out
}

func sameVersion(a, b api.CueVersion) bool {
	return slices.EqualFunc(a.States, b.States, func(x, y []api.CueMove) bool { return slices.Equal(x, y) })
}

func sameBook(a, b api.CueBook) bool {
	return a.Cues == b.Cues && a.Tunes == b.Tunes && slices.EqualFunc(a.Versions, b.Versions, sameVersion)
}

// isFirst reports whether a result is the first list of those up to a length that are wanted; found is whether there is such a list.
func isFirst(y []int, e api.Errno, cues, long int, wanted func([]int) bool) (right, found bool) {
	want, found := firstList(cues, long, wanted)
	if found {
		return e == api.OK && slices.Equal(y, want), true
	}
	if e == api.ErrNone {
		return y == nil, false
	}
	return e == api.OK && len(y) > long && wanted(y), false
}

// met counts how often something was met in a test.
type met map[string]int

func (m met) note(things ...any) { m[fmt.Sprint(things...)]++ }

func (m met) atLeast(t *testing.T, many int, things ...string) {
	t.Helper()
	for _, thing := range things {
		if m[thing] < many {
			t.Error(thing, "was met too rarely:", m)
		}
	}
}
