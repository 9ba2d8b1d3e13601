package version_test

import (
	"cmp"
	"fmt"
	"math"
	"math/rand/v2"
	"reflect"
	"slices"
	"testing"

	"kelir/api"
)

func l(n ...int) []int { return n }

func ll(lists ...[]int) [][]int { return lists }

func written(words ...int) api.VersionLine { return api.VersionLine{Words: words} }

func lost() api.VersionLine { return api.VersionLine{Lost: true} }

// bookB is the book b of the chapter.
func bookB() api.VersionBook {
	return api.VersionBook{Words: 3, Copies: [][]api.VersionLine{{written(0, 1, 2), written(1, 1)}, {written(0, 2), lost()}, {written(0, 1, 1, 2), written(1, 2)}, {written(0, 1, 2), written(1)}}}
}

// smallBook is the book of the chapter's written text.
func smallBook() api.VersionBook {
	return api.VersionBook{Words: 2, Copies: [][]api.VersionLine{{written(1, 0), lost()}}}
}

// single is a book of copies of one line.
func single(words int, lines ...api.VersionLine) api.VersionBook {
	b := api.VersionBook{Words: words}
	for _, line := range lines {
		b.Copies = append(b.Copies, []api.VersionLine{line})
	}
	return b
}

// evenBook has so many copies of so many lines, which are all the same.
func evenBook(words, copies, lines int, line api.VersionLine) api.VersionBook {
	return copyOf(api.VersionBook{Words: words, Copies: slices.Repeat([][]api.VersionLine{slices.Repeat([]api.VersionLine{line}, lines)}, copies)})
}

// longestBook has the longest written text.
func longestBook() api.VersionBook { return evenBook(3, 5, 4, written(2, 2, 2, 2)) }

// lostBook has lost everything.
func lostBook() api.VersionBook { return evenBook(3, 5, 4, lost()) }

func copyOf(b api.VersionBook) api.VersionBook {
	b.Copies = slices.Clone(b.Copies)
	for n, lines := range b.Copies {
		b.Copies[n] = slices.Clone(lines)
		for k, line := range lines {
			b.Copies[n][k].Words = slices.Clone(line.Words)
		}
	}
	return b
}

func with(b api.VersionBook, change func(*api.VersionBook)) api.VersionBook {
	b = copyOf(b)
	change(&b)
	return b
}

func badBooks() []api.VersionBook {
	out := []api.VersionBook{{}, {Words: 1}, {Words: 3, Copies: [][]api.VersionLine{}}, {Words: 3, Copies: [][]api.VersionLine{nil}}, {Words: 3, Copies: [][]api.VersionLine{{}, {}}}, evenBook(3, 5, 5, lost()), evenBook(3, 6, 4, lost()), evenBook(4, 5, 4, lost()), evenBook(0, 5, 4, lost()), evenBook(3, 5, 4, written(0, 0, 0, 0, 0))}
	for _, n := range l(-1, math.MinInt, math.MaxInt, 256) {
		out = append(out,
			with(bookB(), func(b *api.VersionBook) { b.Words = n }),
			with(bookB(), func(b *api.VersionBook) { b.Copies[0][0] = written(n) }),
			with(bookB(), func(b *api.VersionBook) { b.Copies[3][1] = written(0, 0, 0, n) }))
	}
	for _, change := range []func(*api.VersionBook){
		func(b *api.VersionBook) { b.Words = 2 },
		func(b *api.VersionBook) { b.Words = 4 },
		func(b *api.VersionBook) { b.Copies = append(b.Copies, b.Copies[0], b.Copies[0]) },
		func(b *api.VersionBook) { b.Copies = append(b.Copies, nil) },
		func(b *api.VersionBook) { b.Copies[0] = b.Copies[0][:1] },
		func(b *api.VersionBook) { b.Copies[3] = b.Copies[3][:1] },
		func(b *api.VersionBook) { b.Copies[0] = nil },
		func(b *api.VersionBook) { b.Copies[1] = append(b.Copies[1], lost()) },
		func(b *api.VersionBook) { b.Copies[3][0] = written(0, 1, 2, 0, 1) },
		func(b *api.VersionBook) { b.Copies[3][1] = written(3) },
		func(b *api.VersionBook) { b.Copies[2][0] = written(0, 1, 3, 2) },
		func(b *api.VersionBook) { b.Copies[1][1].Words = l(0) },
		func(b *api.VersionBook) { b.Copies[3][1].Lost = true },
	} {
		out = append(out, with(bookB(), change))
	}
	return out
}

// badLines are no lines of the book b, badNumbers neither numbers of its lines nor of its copies.
func badLines() [][]int {
	return ll(l(-1), l(3), l(0, 1, 2, 3), l(0, 0, 0, -1), l(0, 0, 0, 0, 0), l(math.MaxInt), l(math.MinInt), l(256), l(0, 257), slices.Repeat(l(1), 1000))
}

func badNumbers() []int { return l(-1, 4, 5, math.MinInt, math.MaxInt) }

func random(seed uint64) *rand.Rand { return rand.New(rand.NewPCG(seed, 6)) }

func randomLine(g *rand.Rand, words int) []int {
	var line []int
	for range g.IntN(5) {
		line = append(line, g.IntN(words))
	}
	return line
}

// changed is a line after a change, or another one if it would be too long or too short.
func changed(g *rand.Rand, words int, line []int) []int {
	place := g.IntN(len(line) + 1)
	switch g.IntN(3) {
	case 0:
		if len(line) < 4 {
			return slices.Insert(slices.Clone(line), place, g.IntN(words))
		}
	case 1:
		if place < len(line) {
			return slices.Delete(slices.Clone(line), place, place+1)
		}
	default:
		if place < len(line) {
			line = slices.Clone(line)
			line[place] = g.IntN(words)
		}
	}
	return line
}

// randomBook has copies of one text with some changes, or lines of any kind, and lines that are lost by so many of twelve.
func randomBook(g *rand.Rand, words, losses int) api.VersionBook {
	b := api.VersionBook{Words: words}
	var text [][]int
	for range 1 + g.IntN(4) {
		text = append(text, randomLine(g, words))
	}
	worst := g.IntN(5)
	for range 1 + max(g.IntN(5), g.IntN(5)) {
		var lines []api.VersionLine
		for _, line := range text {
			for range g.IntN(worst + 1) {
				line = changed(g, words, line)
			}
			if worst == 4 {
				line = randomLine(g, words)
			}
			if g.IntN(12) < losses {
				lines = append(lines, lost())
			} else {
				lines = append(lines, written(line...))
			}
		}
		b.Copies = append(b.Copies, lines)
	}
	return copyOf(b)
}

func anyBook(g *rand.Rand) api.VersionBook { return randomBook(g, 1+g.IntN(3), g.IntN(8)) }

// order compares lines: shorter ones first, and those of one length in lexicographic order.
func order(a, b []int) int { return cmp.Or(len(a)-len(b), slices.Compare(a, b)) }

// slowLines returns all lines with so many words, in order.
func slowLines(words int) [][]int {
	out := ll(nil)
	for n := 0; n < len(out); n++ {
		for word := range words {
			if len(out[n]) < 4 {
				out = append(out, append(slices.Clone(out[n]), word))
			}
		}
	}
	slices.SortFunc(out, order)
	return out
}

// slowNear returns all lines to which one change leads.
func slowNear(words int, line []int) [][]int {
	var out [][]int
	for place := range len(line) + 1 {
		for word := range words {
			if len(line) < 4 {
				out = append(out, slices.Insert(slices.Clone(line), place, word))
			}
			if place < len(line) && line[place] != word {
				out = append(out, slices.Replace(slices.Clone(line), place, place+1, word))
			}
		}
		if place < len(line) {
			out = append(out, slices.Delete(slices.Clone(line), place, place+1))
		}
	}
	return out
}

func key(line []int) string {
	var out []byte
	for _, word := range line {
		out = append(out, byte(word))
	}
	return string(out)
}

// slowAway returns how many changes lead from a line to each other one.
func slowAway(words int, line []int) map[string]int {
	away := map[string]int{key(line): 0}
	for next := ll(line); len(next) > 0; next = next[1:] {
		for _, near := range slowNear(words, next[0]) {
			if _, met := away[key(near)]; !met {
				away[key(near)] = away[key(next[0])] + 1
				next = append(next, near)
			}
		}
	}
	return away
}

// slow knows all lines of books with so many words, and the changes between any two of them.
type slow struct {
	words   int
	lines   [][]int
	between map[string]map[string]int
}

func slowOf(words int) slow {
	s := slow{words, slowLines(words), map[string]map[string]int{}}
	for _, line := range s.lines {
		s.between[key(line)] = slowAway(words, line)
	}
	return s
}

// slows returns one for each number of words, from 0 on.
func slows() []slow { return []slow{{}, slowOf(1), slowOf(2), slowOf(3)} }

func (s slow) changes(one, other []int) int { return s.between[key(one)][key(other)] }

// lineChanges returns the changes of a line, if it is one of a book.
func (s slow) lineChanges(b api.VersionBook, number int, line []int) int {
	count := 0
	for _, lines := range b.Copies {
		if !lines[number].Lost {
			count += s.changes(line, lines[number].Words)
		}
	}
	return count
}

func (s slow) least(b api.VersionBook, number int) ([][]int, int) {
	var out [][]int
	fewest := math.MaxInt
	for _, line := range s.lines {
		n := s.lineChanges(b, number, line)
		if n < fewest {
			out, fewest = nil, n
		}
		if n == fewest {
			out = append(out, line)
		}
	}
	return out, fewest
}

// texts returns all least texts, in order, or none if there are more than some.
func (s slow) texts(b api.VersionBook, most int) [][][]int {
	out := [][][]int{nil}
	for number := range b.Copies[0] {
		least, _ := s.least(b, number)
		if len(out)*len(least) > most {
			return nil
		}
		var longer [][][]int
		for _, text := range out {
			for _, line := range least {
				longer = append(longer, append(slices.Clone(text), line))
			}
		}
		out = longer
	}
	return out
}

// toCopy returns how many changes it takes to copy a copy from a text.
func (s slow) toCopy(b api.VersionBook, text [][]int, copy int) int {
	count := 0
	for n, line := range b.Copies[copy] {
		if !line.Lost {
			count += s.changes(text[n], line.Words)
		}
	}
	return count
}

// slowWords returns the lines of a copy; one that is lost has no words.
func slowWords(b api.VersionBook, copy int) [][]int {
	var out [][]int
	for _, line := range b.Copies[copy] {
		if line.Lost {
			line.Words = nil
		}
		out = append(out, line.Words)
	}
	return out
}

// total returns the changes of a tree, or that it is none.
func (s slow) total(b api.VersionBook, text [][]int, tree []int) (int, bool) {
	known := map[int]bool{-1: true}
	for range tree {
		for copy, from := range tree {
			if known[from] {
				known[copy] = true
			}
		}
	}
	count := 0
	for copy, from := range tree {
		if from < 0 {
			count += s.toCopy(b, text, copy)
		} else {
			count += s.toCopy(b, slowWords(b, from), copy)
		}
	}
	return count, len(known) == len(tree)+1
}

// slowTrees returns all trees of so many copies, in order.
func slowTrees(copies int) [][]int {
	out := ll(nil)
	for range copies {
		var longer [][]int
		for _, tree := range out {
			for from := -1; from < copies; from++ {
				longer = append(longer, append(slices.Clone(tree), from))
			}
		}
		out = longer
	}
	return slices.DeleteFunc(out, func(tree []int) bool {
		_, is := slow{}.total(evenBook(1, copies, 1, lost()), ll(nil), tree)
		return !is
	})
}

// has reports whether all words of another line are in a line, in this order.
func has(line, other []int) bool {
	if len(other) == 0 {
		return true
	}
	for n, word := range line {
		if word == other[0] && has(line[n+1:], other[1:]) {
			return true
		}
	}
	return false
}

func hasAll(lines [][]int, other []int) bool {
	return !slices.ContainsFunc(lines, func(line []int) bool { return !has(line, other) })
}

func sameLists(a, b [][]int) bool {
	return slices.EqualFunc(a, b, func(x, y []int) bool { return slices.Equal(x, y) })
}

func sameBook(a, b api.VersionBook) bool {
	return a.Words == b.Words && slices.EqualFunc(a.Copies, b.Copies, func(x, y []api.VersionLine) bool {
		return slices.EqualFunc(x, y, func(v, w api.VersionLine) bool { return v.Lost == w.Lost && slices.Equal(v.Words, w.Words) })
	})
}

// isZero reports whether a result is its zero value; a list may be nil or empty.
func isZero(result any) bool {
	v := reflect.ValueOf(result)
	if v.Kind() == reflect.Slice {
		return v.Len() == 0
	}
	return v.IsZero()
}

// met counts how often something was met in a test.
type met map[string]int

func (m met) note(things ...any) { m[fmt.Sprint(things...)]++ }

func (m met) atLeast(t *testing.T, many int, things ...string) {
	t.Helper()
	for _, thing := range things {
		if m[thing] < many {
			t.Error(thing, "was met too rarely:", m)
		}
	}
}
