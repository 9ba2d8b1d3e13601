package version

import "kelir/api"

// pair is two lines, or what is left of them; steps lead from one to the other one.
type pair struct{ one, other line }

// move is a step, with what is left of both lines behind it.
type move struct {
	step api.VersionStep
	rest pair
}

func moveTo(rest pair, kind api.VersionKind, word byte) (move, bool) {
	return move{api.VersionStep{Kind: kind, Word: int(word)}, rest}, true
}

func (p pair) keep() (move, bool) {
	if p.one == "" || p.other == "" || p.one[0] != p.other[0] {
		return move{}, false
	}
	return moveTo(pair{p.one[1:], p.other[1:]}, api.VersionKeep, p.one[0])
}

func (p pair) change() (move, bool) {
	if p.one == "" || p.other == "" || p.one[0] == p.other[0] {
		return move{}, false
	}
	return moveTo(pair{p.one[1:], p.other[1:]}, api.VersionChange, p.other[0])
}

func (p pair) add() (move, bool) {
	if p.other == "" {
		return move{}, false
	}
	return moveTo(pair{p.one, p.other[1:]}, api.VersionAdd, p.other[0])
}

func (p pair) drop() (move, bool) {
	if p.one == "" {
		return move{}, false
	}
	return moveTo(pair{p.one[1:], p.other}, api.VersionDrop, p.one[0])
}

// moves returns what can be done first, in the order of kinds: there is at most one move of each kind.
func (p pair) moves() []move {
	kinds := [...]func() (move, bool){p.keep, p.change, p.add, p.drop}
	list := make([]move, 0, len(kinds))
	for _, kind := range kinds {
		if m, can := kind(); can {
			list = append(list, m)
		}
	}
	return list
}

// counter keeps how many changes are between two lines, where they were counted.
type counter map[pair]int

func (c counter) changes(p pair) int {
	if n, counted := c[p]; counted {
		return n
	}
	n := 0
	if first, found := best(p.moves(), c.cost); found {
		n = c.cost(first)
	}
	c[p] = n
	return n
}

// cost returns how many changes there are if a move is made.
func (c counter) cost(m move) int {
	n := c.changes(m.rest)
	if m.step.Kind != api.VersionKeep {
		n++
	}
	return n
}

// steps returns the first steps with the fewest changes.
func (c counter) steps(p pair) []api.VersionStep {
	var list []api.VersionStep
	for {
		first, found := best(p.moves(), c.cost)
		if !found {
			return list
		}
		list = append(list, first.step)
		p = first.rest
	}
}

// between returns all lines with so many different words that lie between two lines, in order.
func (c counter) between(p pair, words int) []line {
	var list []line
	for l := range lines(words) {
		if c.changes(pair{p.one, l})+c.changes(pair{l, p.other}) == c.changes(p) {
			list = append(list, l)
		}
	}
	return list
}
