package version

import (
	"slices"

	"kelir/api"
)

// oneLine is a book with one of its lines.
type oneLine struct {
	api.VersionBook
	number  int
	counted counter
}

// rated is a line with its changes.
type rated struct {
	line    line
	changes int
}

func (r rated) cost() int { return r.changes }

// changes returns those of a line, if it is this one of the book.
func (o oneLine) changes(l line) int {
	var all []int
	for _, lines := range o.Copies {
		if !lines[o.number].Lost {
			all = append(all, o.counted.changes(pair{l, lineOf(lines[o.number].Words)}))
		}
	}
	return sum(all...)
}

// rated returns all lines, in order, with their changes.
func (o oneLine) rated() []rated {
	var list []rated
	for l := range lines(o.Words) {
		list = append(list, rated{l, o.changes(l)})
	}
	return list
}

// least returns those of some lines that have the fewest changes.
func least(all []rated) []rated {
	first, _ := best(all, rated.cost)
	more := func(r rated) bool { return r.changes > first.changes }
	return slices.DeleteFunc(slices.Clone(all), more)
}

func (o oneLine) least() []rated { return least(o.rated()) }

// leastAfter returns how many least lines there are at most if the line of one more copy is found.
func (o oneLine) leastAfter() int {
	all := o.rated()
	most := 0
	for found := range lines(o.Words) {
		after := slices.Clone(all)
		for n, r := range after {
			after[n].changes += o.counted.changes(pair{r.line, found})
		}
		most = max(most, len(least(after)))
	}
	return most
}

func linesOf(list []rated) []line {
	var lines []line
	for _, r := range list {
		lines = append(lines, r.line)
	}
	return lines
}

// each returns a book with each of its lines.
func each(b api.VersionBook) []oneLine {
	var list []oneLine
	counted := counter{}
	for number := range lineCount(b) {
		list = append(list, oneLine{b, number, counted})
	}
	return list
}

// leastOf returns the least lines for each line of a book.
func leastOf(b api.VersionBook) [][]rated {
	var list [][]rated
	for _, o := range each(b) {
		list = append(list, o.least())
	}
	return list
}

// common returns the first one of the longest lines that some lines have.
func common(some []line, words int) line {
	var longest line
search:
	for shorter := range api.VersionLong + 1 {
		for list := range lists(api.VersionLong-shorter, words) {
			l := lineOf(list)
			if !slices.ContainsFunc(some, func(other line) bool { return !other.has(l) }) {
				longest = l
				break search
			}
		}
	}
	return longest
}

// far returns how many changes it takes to copy a copy from a least text.
func far(b api.VersionBook, copy int) api.Span {
	var low, high []int
	counted := counter{}
	for n, least := range leastOf(b) {
		own := b.Copies[copy][n]
		if own.Lost {
			continue
		}
		var all []int
		for _, r := range least {
			all = append(all, counted.changes(pair{r.line, lineOf(own.Words)}))
		}
		low, high = append(low, slices.Min(all)), append(high, slices.Max(all))
	}
	return api.Span{Low: sum(low...), High: sum(high...)}
}

// question asks for a line that a copy has lost; so many least texts are left after it, at most.
type question struct{ copy, line, left int }

func (q question) cost() int { return q.left }

// questions returns one for each line that is lost, in order; for the first copy alone that has lost it, since all of them leave as many texts.
func questions(b api.VersionBook) []question {
	var list []question
	all := each(b)
	for copy, lines := range b.Copies {
		for n, l := range lines {
			same := func(q question) bool { return q.line == n }
			if l.Lost && !slices.ContainsFunc(list, same) {
				list = append(list, question{copy: copy, line: n, left: leftAfter(all, n)})
			}
		}
	}
	return list
}

// leftAfter returns how many least texts there are at most if one line of one more copy is found.
func leftAfter(all []oneLine, line int) int {
	left := 1
	for n, o := range all {
		if n == line {
			left *= o.leastAfter()
		} else {
			left *= len(o.least())
		}
	}
	return left
}
