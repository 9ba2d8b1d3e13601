package stem

import (
	"iter"

	"kelir/api"
)

// handsOfAll is how many hands one puppeteer has.
const handsOfAll = 2

func sum(numbers ...int) int {
	all := 0
	for _, n := range numbers {
		all += n
	}
	return all
}

func (s setting) hands() int {
	var hands []int
	for _, figure := range s.Moved {
		hands = append(hands, s.Figures[figure].Hands)
	}
	if s.Knocks == mostKnocks {
		hands = append(hands, 1)
	}
	return sum(hands...)
}

func some(lists iter.Seq[[]int]) bool {
	for range lists {
		return true
	}
	return false
}

// lacking is why a scene is given up: it lacks something.
type lacking struct {
	scene int
	what  api.StemLack
}

// insistOnScene gives up if a scene cannot be played.
func insistOnScene(p api.StemPlay, scene int) {
	s := at(p, scene)
	switch {
	case s.hands() > handsOfAll:
		panic(lacking{scene, api.StemHands})
	case !some(s.lists(setting.free)):
		panic(lacking{scene, api.StemNoPlace})
	case !some(s.arrangements()):
		panic(lacking{scene, api.StemRanks})
	}
}

// firstLack returns the first scene that cannot be played, if there is any, and what it lacks.
func firstLack(p api.StemPlay) (first lacking, found bool) {
	defer func() {
		switch why := recover().(type) {
		case nil:
		case lacking:
			first, found = why, true
		default:
			panic(why)
		}
	}()
	for scene := range len(p.Scenes) {
		insistOnScene(p, scene)
	}
	return lacking{}, false
}

func playable(p api.StemPlay) bool {
	_, found := firstLack(p)
	return !found
}

// alone returns a play with one scene.
func alone(p api.StemPlay, s api.StemScene) api.StemPlay {
	p.Scenes = []api.StemScene{s}
	return p
}
