package version

import (
	"slices"

	"kelir/api"
)

// fromText is what a tree has for a copy that comes from the text.
const fromText = -1

// copied is a book with the text from which copies come.
type copied struct {
	api.VersionBook
	text    [][]int
	counted counter
}

// lines returns those of a copy, or of the text; one that is lost has no words.
func (c copied) lines(from int) []line {
	var list []line
	for n := range lineCount(c.VersionBook) {
		if from == fromText {
			list = append(list, lineOf(c.text[n]))
		} else {
			list = append(list, lineOf(c.Copies[from][n].Words))
		}
	}
	return list
}

// changes returns how many it takes to copy a copy from some lines.
func (c copied) changes(from []line, copy int) int {
	var all []int
	for n, own := range c.Copies[copy] {
		if !own.Lost {
			all = append(all, c.counted.changes(pair{from[n], lineOf(own.Words)}))
		}
	}
	return sum(all...)
}

// source is what a copy is copied from: the text, or another copy.
type source struct{ copy, from int }

// costs returns how many changes it takes to copy each copy from each source.
func (c copied) costs() map[source]int {
	costs := map[source]int{}
	for copy := range c.Copies {
		for from := fromText; from < len(c.Copies); from++ {
			costs[source{copy, from}] = c.changes(c.lines(from), copy)
		}
	}
	return costs
}

// astray is why a tree is given up: a copy does not lead to the text.
type astray struct{}

func follow(tree []int, copy int) {
	for range tree {
		copy = tree[copy]
		if copy == fromText {
			return
		}
	}
	panic(astray{})
}

// total returns the changes of a tree, and whether it is one.
func total(tree []int, costs map[source]int) (n int, is bool) {
	defer func() {
		switch found := recover().(type) {
		case nil:
		case astray:
			n, is = 0, false
		default:
			panic(found)
		}
	}()
	for copy := range tree {
		follow(tree, copy)
	}
	var all []int
	for copy, from := range tree {
		all = append(all, costs[source{copy, from}])
	}
	return sum(all...), true
}

// grown is a tree with its changes.
type grown struct {
	tree    []int
	changes int
}

func (g grown) cost() int { return g.changes }

// trees returns all trees, in order.
func (c copied) trees() []grown {
	var list []grown
	costs := c.costs()
	for tree := range lists(len(c.Copies), len(c.Copies)+1) {
		for copy := range tree {
			tree[copy] += fromText
		}
		if n, is := total(tree, costs); is {
			list = append(list, grown{tree, n})
		}
	}
	return list
}

// mixes returns all ways in which a copy may be made of two others, in order.
func mixes(b api.VersionBook, copy int) []api.VersionMix {
	var list []api.VersionMix
	c := copied{b, nil, counter{}}
	for one := range b.Copies {
		for other := range b.Copies {
			if one == other || one == copy || other == copy {
				continue
			}
			for n := 1; n < lineCount(b); n++ {
				from := slices.Concat(c.lines(one)[:n], c.lines(other)[n:])
				list = append(list, api.VersionMix{One: one, Other: other, Lines: n, Changes: c.changes(from, copy)})
			}
		}
	}
	return list
}

func changesOfMix(m api.VersionMix) int { return m.Changes }
