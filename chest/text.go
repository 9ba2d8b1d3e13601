package chest

import (
	"strconv"
	"strings"

	"kelir/api"
)

// word is the first word of a line.
type word int

const (
	chestWord word = iota
	figureWord
	endWord
)

func (w word) text() string {
	return [...]string{chestWord: "chest", figureWord: "figure", endWord: "end"}[w]
}

const (
	digits     = 2
	checkWide  = 3
	checkPrime = 211
)

// line is what a line that does not end a text tells.
type line interface {
	first() word
	numbers() []int
	// with returns a list to which was added what the line tells.
	with(c api.ChestList) api.ChestList
}

type chestLine struct{ room, depth int }

type figureLine struct{ api.ChestFigure }

func (chestLine) first() word { return chestWord }

func (figureLine) first() word { return figureWord }

func (l chestLine) numbers() []int { return []int{l.room, l.depth} }

func (l figureLine) numbers() []int { return []int{l.Size, l.Rank, l.Evening} }

func (l chestLine) with(c api.ChestList) api.ChestList {
	c.Room, c.Depth = l.room, l.depth
	return c
}

func (l figureLine) with(c api.ChestList) api.ChestList { return withMore(c, l.ChestFigure) }

func textOf(l line) string {
	text := l.first().text()
	for _, n := range l.numbers() {
		text += " " + strconv.Itoa(n)
	}
	return text
}

func linesOf(c api.ChestList) []line {
	list := []line{chestLine{c.Room, c.Depth}}
	for _, f := range c.Figures {
		list = append(list, figureLine{f})
	}
	return list
}

func write(c api.ChestList) string {
	var texts []string
	for _, l := range linesOf(c) {
		texts = append(texts, textOf(l))
	}
	return strings.Join(append(texts, endOf(texts)), "\n") + "\n"
}

// endOf returns the line that ends a text with these lines.
func endOf(texts []string) string {
	check := strconv.Itoa(sumOf(texts) % checkPrime)
	return endWord.text() + " " + strings.Repeat("0", checkWide-len(check)) + check
}

func sumOf(texts []string) int {
	all := 0
	for n, l := range texts {
		for place := range len(l) {
			all += int(l[place]) * (place + 1) * (n + 1)
		}
	}
	return all
}

// noText is why a string is given up: it has not the form of a text.
type noText struct{}

func insist(is bool) {
	if !is {
		panic(noText{})
	}
}

// parse returns the list of a text, whether it is as defined or not.
func parse(text string) (c api.ChestList, e api.Errno) {
	defer func() {
		switch given := recover().(type) {
		case nil:
		case noText:
			c, e = api.ChestList{}, api.ErrText
		default:
			panic(given)
		}
	}()
	all, ended := strings.CutSuffix(text, "\n")
	insist(ended)
	texts := strings.Split(all, "\n")
	last := len(texts) - 1
	insist(last >= 1)
	for n, t := range texts[:last] {
		l := parseLine(t)
		insist((l.first() == chestWord) == (n == 0))
		c = l.with(c)
	}
	insist(texts[last] == endOf(texts[:last]))
	return c, api.OK
}

func parseLine(text string) line {
	words := strings.Split(text, " ")
	var numbers []int
	for _, w := range words[1:] {
		numbers = append(numbers, parseNumber(w))
	}
	switch words[0] {
	case chestWord.text():
		insist(len(numbers) == 2)
		return chestLine{numbers[0], numbers[1]}
	case figureWord.text():
		insist(len(numbers) == 3)
		return figureLine{api.ChestFigure{Size: numbers[0], Rank: numbers[1], Evening: numbers[2]}}
	}
	panic(noText{})
}

func parseNumber(w string) int {
	insist(within(len(w), 1, digits) && (w == "0" || w[0] != '0'))
	n := 0
	for _, c := range w {
		insist('0' <= c && c <= '9')
		n = 10*n + int(c-'0')
	}
	return n
}
