package outline

import (
	"slices"
	"strconv"
	"strings"

	"kelir/api"
)

// kind is a kind of lines.
type kind int

const (
	stageKind kind = iota
	figureKind
	endKind
)

func (k kind) word() string { return [...]string{"stage", "figure", "end"}[k] }

const (
	digits     = 2
	checkWide  = 3
	checkPrime = 173
)

// line is what a line tells.
type line interface{ words() []string }

type stageLine struct{ api.OutlineStage }

type figureLine struct{ api.OutlineFigure }

type endLine struct{ check int }

func (l stageLine) words() []string {
	var out []string
	for _, n := range [...]int{l.Wide, l.High, l.Far, l.Flame, l.X, l.Y} {
		out = append(out, strconv.Itoa(n))
	}
	return out
}

func (l figureLine) words() []string { return slices.Clone(l.Rows) }

func (l endLine) words() []string {
	check := strconv.Itoa(l.check)
	return []string{strings.Repeat("0", checkWide-len(check)) + check}
}

func kindOf(l line) kind {
	switch l.(type) {
	case stageLine:
		return stageKind
	case figureLine:
		return figureKind
	default:
		return endKind
	}
}

func writeLine(l line) string { return kindOf(l).word() + " " + strings.Join(l.words(), " ") }

func write(b api.OutlineBook) string {
	lines := []string{writeLine(stageLine{b.Stage})}
	for _, f := range b.Figures {
		lines = append(lines, writeLine(figureLine{f}))
	}
	return strings.Join(lines, "\n") + "\n" + endOf(lines) + "\n"
}

// endOf returns the line that ends a text with these lines.
func endOf(lines []string) string { return writeLine(endLine{sum(lines) % checkPrime}) }

func sum(lines []string) int {
	all := 0
	for n, l := range lines {
		for place := range len(l) {
			all += int(l[place]) * (place + 1) * (n + 1)
		}
	}
	return all
}

// noBook is why a string is given up: it has not the form of a book.
type noBook struct{}

// parse returns the book of a text, whether it is as defined or not.
func parse(text string) (b api.OutlineBook, e api.Errno) {
	defer func() {
		switch found := recover().(type) {
		case nil:
		case noBook:
			b, e = api.OutlineBook{}, api.ErrText
		default:
			panic(found)
		}
	}()
	lines := linesOf(text)
	last := len(lines) - 1
	insist(last >= 1)
	b.Stage = parseStage(wordsOf(stageKind, lines[0]))
	for _, l := range lines[1:last] {
		b.Figures = append(b.Figures, api.OutlineFigure{Rows: wordsOf(figureKind, l)})
	}
	insist(lines[last] == endOf(lines[:last]))
	return b, api.OK
}

func insist(is bool) {
	if !is {
		panic(noBook{})
	}
}

func linesOf(text string) []string {
	all, ended := strings.CutSuffix(text, "\n")
	insist(ended)
	return strings.Split(all, "\n")
}

// wordsOf returns the words of a line of some kind behind the first one. There is at least one, and none is empty.
func wordsOf(k kind, l string) []string {
	words := strings.Split(l, " ")
	insist(len(words) > 1 && words[0] == k.word() && !slices.Contains(words, ""))
	return slices.Clone(words[1:])
}

func parseStage(words []string) api.OutlineStage {
	insist(len(words) == 6)
	var n [6]int
	for i, word := range words {
		n[i] = parseNumber(word)
	}
	return api.OutlineStage{Wide: n[0], High: n[1], Far: n[2], Flame: n[3], X: n[4], Y: n[5]}
}

func parseNumber(word string) int {
	insist(within(len(word), 1, digits))
	n := 0
	for _, c := range word {
		insist('0' <= c && c <= '9')
		n = 10*n + int(c-'0')
	}
	insist(word == strconv.Itoa(n))
	return n
}
