package version

import (
	"strconv"
	"strings"

	"kelir/api"
)

// word is the first word of a line of a written text.
type word int

const (
	bookWord word = iota
	copyWord
	lineWord
	lostWord
	endWord
)

func (w word) text() string {
	return [...]string{bookWord: "book", copyWord: "copy", lineWord: "line", lostWord: "lost", endWord: "end"}[w]
}

const (
	digits     = 2
	checkWide  = 3
	checkPrime = 197
)

// told is what a line of a written text tells.
type told interface{ first() word }

type bookTold struct{ words int }

type copyTold struct{}

type lineTold struct{ words []int }

type lostTold struct{}

type endTold struct{ check int }

func (bookTold) first() word { return bookWord }

func (copyTold) first() word { return copyWord }

func (lineTold) first() word { return lineWord }

func (lostTold) first() word { return lostWord }

func (endTold) first() word { return endWord }

func textOf(t told) string {
	words := []string{t.first().text()}
	switch found := t.(type) {
	case bookTold:
		words = append(words, strconv.Itoa(found.words))
	case lineTold:
		for _, n := range found.words {
			words = append(words, strconv.Itoa(n))
		}
	case endTold:
		check := strconv.Itoa(found.check)
		words = append(words, strings.Repeat("0", checkWide-len(check))+check)
	}
	return strings.Join(words, " ")
}

func toldOf(b api.VersionBook) []told {
	list := []told{bookTold{b.Words}}
	for _, lines := range b.Copies {
		list = append(list, copyTold{})
		for _, l := range lines {
			if l.Lost {
				list = append(list, lostTold{})
			} else {
				list = append(list, lineTold{l.Words})
			}
		}
	}
	return list
}

func write(b api.VersionBook) string {
	var texts []string
	for _, t := range toldOf(b) {
		texts = append(texts, textOf(t))
	}
	return strings.Join(append(texts, endOf(texts)), "\n") + "\n"
}

// endOf returns the line that ends a written text with these lines.
func endOf(texts []string) string { return textOf(endTold{sumOf(texts) % checkPrime}) }

func sumOf(texts []string) int {
	all := 0
	for n, l := range texts {
		for place := range len(l) {
			all += int(l[place]) * (place + 1) * (n + 1)
		}
	}
	return all
}

// noText is why a string is given up: it has not the form of a written text.
type noText struct{}

func insist(is bool) {
	if !is {
		panic(noText{})
	}
}

// parse returns the book of a written text, whether it is as defined or not.
func parse(text string) (b api.VersionBook, e api.Errno) {
	defer func() {
		switch found := recover().(type) {
		case nil:
		case noText:
			b, e = api.VersionBook{}, api.ErrText
		default:
			panic(found)
		}
	}()
	all, ended := strings.CutSuffix(text, "\n")
	insist(ended)
	texts := strings.Split(all, "\n")
	last := len(texts) - 1
	insist(last >= 1)
	for n, l := range texts[:last] {
		t := parseLine(l)
		insist((t.first() == bookWord) == (n == 0))
		b = with(b, t)
	}
	insist(texts[last] == endOf(texts[:last]))
	return b, api.OK
}

// with returns a book to which what a further line tells was added.
func with(b api.VersionBook, t told) api.VersionBook {
	switch found := t.(type) {
	case bookTold:
		b.Words = found.words
	case copyTold:
		b.Copies = append(b.Copies, nil)
	case lineTold:
		addLine(b, api.VersionLine{Words: found.words})
	case lostTold:
		addLine(b, api.VersionLine{Lost: true})
	}
	return b
}

// addLine adds a line to the last copy.
func addLine(b api.VersionBook, l api.VersionLine) {
	insist(len(b.Copies) > 0)
	last := len(b.Copies) - 1
	b.Copies[last] = append(b.Copies[last], l)
}

// parseLine returns what a line that does not end a written text tells.
func parseLine(text string) told {
	words := strings.Split(text, " ")
	var numbers []int
	for _, w := range words[1:] {
		numbers = append(numbers, parseNumber(w))
	}
	switch words[0] {
	case bookWord.text():
		insist(len(numbers) == 1)
		return bookTold{numbers[0]}
	case copyWord.text():
		insist(len(numbers) == 0)
		return copyTold{}
	case lineWord.text():
		return lineTold{numbers}
	case lostWord.text():
		insist(len(numbers) == 0)
		return lostTold{}
	}
	panic(noText{})
}

func parseNumber(w string) int {
	insist(within(len(w), 1, digits) && (w == "0" || w[0] != '0'))
	n := 0
	for _, c := range w {
		insist('0' <= c && c <= '9')
		n = 10*n + int(c-'0')
	}
	return n
}
