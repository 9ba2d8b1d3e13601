package cue

import (
	"strconv"
	"strings"

	"kelir/api"
)

// word is the first word of a line.
type word int

const (
	bookWord word = iota
	versionWord
	stateWord
	endWord
)

func (w word) text() string {
	return [...]string{bookWord: "book", versionWord: "version", stateWord: "state", endWord: "end"}[w]
}

const (
	digits     = 2
	checkWide  = 3
	checkPrime = 191
)

// line is what a line tells.
type line interface{ text() string }

type bookLine struct{ cues, tunes int }

type versionLine struct{}

// stateLine has the next state and the tune for each cue.
type stateLine struct{ numbers []int }

type endLine struct{ check int }

func (l bookLine) text() string { return wordWith(bookWord, l.cues, l.tunes) }

func (l versionLine) text() string { return wordWith(versionWord) }

func (l stateLine) text() string { return wordWith(stateWord, l.numbers...) }

func (l endLine) text() string {
	check := strconv.Itoa(l.check)
	return endWord.text() + " " + strings.Repeat("0", checkWide-len(check)) + check
}

// wordWith joins the first word of a line and its numbers.
func wordWith(first word, numbers ...int) string {
	out := first.text()
	for _, n := range numbers {
		out += " " + strconv.Itoa(n)
	}
	return out
}

// stateLineOf returns the line of the state in which a player is.
func stateLineOf(p player, cues int) stateLine {
	var l stateLine
	for cue := range cues {
		for _, read := range [2]func(player, int) int{player.next, player.tune} {
			l.numbers = append(l.numbers, read(p, cue))
		}
	}
	return l
}

func linesOf(b api.CueBook) []line {
	list := []line{bookLine{b.Cues, b.Tunes}}
	for _, v := range b.Versions {
		list = append(list, versionLine{})
		for state := range v.States {
			list = append(list, stateLineOf(player{v, state}, b.Cues))
		}
	}
	return list
}

func write(b api.CueBook) string {
	var texts []string
	for _, l := range linesOf(b) {
		texts = append(texts, l.text())
	}
	return strings.Join(append(texts, endOf(texts)), "\n") + "\n"
}

// endOf returns the line that ends a text with these lines.
func endOf(texts []string) string { return endLine{sumOf(texts) % checkPrime}.text() }

func sumOf(texts []string) int {
	all := 0
	for n, l := range texts {
		for place := range len(l) {
			all += int(l[place]) * (place + 1) * (n + 1)
		}
	}
	return all
}

// noText is why a string is given up: it has not the form of a text.
type noText struct{}

func insist(is bool) {
	if !is {
		panic(noText{})
	}
}

// parse returns the book of a text, whether it is as defined or not.
func parse(text string) (b api.CueBook, e api.Errno) {
	defer func() {
		switch found := recover().(type) {
		case nil:
		case noText:
			b, e = api.CueBook{}, api.ErrText
		default:
			panic(found)
		}
	}()
	all, ended := strings.CutSuffix(text, "\n")
	insist(ended)
	texts := strings.Split(all, "\n")
	last := len(texts) - 1
	insist(last >= 1)
	for n, t := range texts[:last] {
		l := parseLine(t)
		_, first := l.(bookLine)
		insist(first == (n == 0))
		b = with(b, l)
	}
	insist(texts[last] == endOf(texts[:last]))
	return b, api.OK
}

// with returns a book to which a further line was added.
func with(b api.CueBook, l line) api.CueBook {
	switch found := l.(type) {
	case bookLine:
		b.Cues, b.Tunes = found.cues, found.tunes
	case versionLine:
		b.Versions = append(b.Versions, api.CueVersion{})
	case stateLine:
		insist(len(b.Versions) > 0)
		v := &b.Versions[len(b.Versions)-1]
		v.States = append(v.States, movesOf(found.numbers))
	}
	return b
}

func movesOf(numbers []int) []api.CueMove {
	insist(len(numbers)%2 == 0)
	var moves []api.CueMove
	for n := 0; n < len(numbers); n += 2 {
		moves = append(moves, api.CueMove{Next: numbers[n], Tune: numbers[n+1]})
	}
	return moves
}

// parseLine returns what a line that does not end a text tells.
func parseLine(text string) line {
	words := strings.Split(text, " ")
	var numbers []int
	for _, w := range words[1:] {
		numbers = append(numbers, parseNumber(w))
	}
	switch words[0] {
	case bookWord.text():
		insist(len(numbers) == 2)
		return bookLine{numbers[0], numbers[1]}
	case versionWord.text():
		insist(len(numbers) == 0)
		return versionLine{}
	case stateWord.text():
		return stateLine{numbers}
	}
	panic(noText{})
}

func parseNumber(w string) int {
	insist(within(len(w), 1, digits) && (w == "0" || w[0] != '0'))
	n := 0
	for _, c := range w {
		insist('0' <= c && c <= '9')
		n = 10*n + int(c-'0')
	}
	return n
}
