package version

import (
	"iter"
	"slices"

	"kelir/api"
)

// line is the words of a line, a byte for each of them, so that it can be in the key of a map.
type line string

func lineOf(words []int) line {
	var bytes []byte
	for _, word := range words {
		bytes = append(bytes, byte(word))
	}
	return line(bytes)
}

func (l line) words() []int {
	var words []int
	for place := range len(l) {
		words = append(words, int(l[place]))
	}
	return words
}

func wordsOf(lines []line) [][]int {
	var lists [][]int
	for _, l := range lines {
		lists = append(lists, l.words())
	}
	return lists
}

// has reports whether all words of another line come in this one, in their order.
func (l line) has(other line) bool {
	for place := 0; place < len(l) && other != ""; place++ {
		if l[place] == other[0] {
			other = other[1:]
		}
	}
	return other == ""
}

// lists goes through all lists of so many numbers, from 0 on and less than a limit, in order.
func lists(many, limit int) iter.Seq[[]int] {
	return func(yield func([]int) bool) {
		var search func(list []int) bool
		search = func(list []int) bool {
			if len(list) == many {
				return yield(slices.Clone(list))
			}
			for n := range limit {
				if !search(append(list, n)) {
					return false
				}
			}
			return true
		}
		search(nil)
	}
}

// lines goes through all lines with so many different words, in order.
func lines(words int) iter.Seq[line] {
	return func(yield func(line) bool) {
		for long := range api.VersionLong + 1 {
			for list := range lists(long, words) {
				if !yield(lineOf(list)) {
					return
				}
			}
		}
	}
}

// best returns the first one of some things with the least cost, if there are any.
func best[T any](things []T, cost func(T) int) (T, bool) {
	var first T
	least := 0
	for n, thing := range things {
		if c := cost(thing); n == 0 || c < least {
			first, least = thing, c
		}
	}
	return first, len(things) > 0
}

func sum(changes ...int) int {
	all := 0
	for _, n := range changes {
		all += n
	}
	return all
}
