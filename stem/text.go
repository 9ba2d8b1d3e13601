package stem

import (
	"slices"
	"strconv"
	"strings"

	"kelir/api"
)

// word is the first word of a line.
type word int

const (
	stemWord word = iota
	figureWord
	sceneWord
	endWord
)

func (w word) text() string {
	return [...]string{stemWord: "stem", figureWord: "figure", sceneWord: "scene", endWord: "end"}[w]
}

const (
	checkWide  = 3
	checkPrime = 193
	emptyList  = "-"
)

// sides are the words of the sides of figures, from that of api.StemLeft on.
func sides() []string { return []string{"left", "right", "either"} }

// line is what a line tells.
type line interface{ words() []string }

type stemLine struct {
	left    int
	heights []int
}

type figureLine struct{ api.StemFigure }

type sceneLine struct{ api.StemScene }

type endLine struct{ check int }

func (l stemLine) words() []string {
	out := []string{stemWord.text(), strconv.Itoa(l.left)}
	for _, height := range l.heights {
		out = append(out, strconv.Itoa(height))
	}
	return out
}

func (l figureLine) words() []string {
	return []string{figureWord.text(), sides()[l.Side-api.StemLeft], strconv.Itoa(l.Rank), strconv.Itoa(l.Hands)}
}

func (l sceneLine) words() []string {
	out := []string{sceneWord.text(), strconv.Itoa(l.Knocks)}
	for _, list := range [...][]int{l.Moved, l.Rest, l.Taken} {
		out = append(out, textOfList(list))
	}
	return out
}

func (l endLine) words() []string {
	check := strconv.Itoa(l.check)
	return []string{endWord.text(), strings.Repeat("0", checkWide-len(check)) + check}
}

func textOfList(list []int) string {
	if len(list) == 0 {
		return emptyList
	}
	var numbers []string
	for _, n := range list {
		numbers = append(numbers, strconv.Itoa(n))
	}
	return strings.Join(numbers, ",")
}

func linesOf(p api.StemPlay) []line {
	list := []line{stemLine{p.Left, p.Heights}}
	for _, f := range p.Figures {
		list = append(list, figureLine{f})
	}
	for _, s := range p.Scenes {
		list = append(list, sceneLine{s})
	}
	return list
}

func textOf(l line) string { return strings.Join(l.words(), " ") }

func write(p api.StemPlay) string {
	var texts []string
	for _, l := range linesOf(p) {
		texts = append(texts, textOf(l))
	}
	return strings.Join(append(texts, endOf(texts)), "\n") + "\n"
}

// endOf returns the line that ends a sheet with these lines.
func endOf(texts []string) string { return textOf(endLine{sumOf(texts) % checkPrime}) }

func sumOf(texts []string) int {
	all := 0
	for n, l := range texts {
		for place := range len(l) {
			all += int(l[place]) * (place + 1) * (n + 1)
		}
	}
	return all
}

// noSheet is why a string is given up: it has not the form of a sheet.
type noSheet struct{}

func insist(is bool) {
	if !is {
		panic(noSheet{})
	}
}

// parse returns the play of a sheet, whether it is as defined or not.
func parse(text string) (p api.StemPlay, e api.Errno) {
	defer func() {
		switch found := recover().(type) {
		case nil:
		case noSheet:
			p, e = api.StemPlay{}, api.ErrText
		default:
			panic(found)
		}
	}()
	all, ended := strings.CutSuffix(text, "\n")
	insist(ended)
	texts := strings.Split(all, "\n")
	last := len(texts) - 1
	insist(last >= 1)
	for n, t := range texts[:last] {
		l := parseLine(t)
		_, first := l.(stemLine)
		insist(first == (n == 0))
		p = with(p, l)
	}
	insist(texts[last] == endOf(texts[:last]))
	return p, api.OK
}

// with returns a play to which what a further line tells was added.
func with(p api.StemPlay, l line) api.StemPlay {
	switch found := l.(type) {
	case stemLine:
		p.Left, p.Heights = found.left, found.heights
	case figureLine:
		insist(len(p.Scenes) == 0)
		p.Figures = append(p.Figures, found.StemFigure)
	case sceneLine:
		p.Scenes = append(p.Scenes, found.StemScene)
	}
	return p
}

// parseLine returns what a line that does not end a sheet tells.
func parseLine(text string) line {
	words := strings.Split(text, " ")
	rest := words[1:]
	switch words[0] {
	case stemWord.text():
		insist(len(rest) >= 1)
		numbers := parseNumbers(rest)
		return stemLine{numbers[0], numbers[1:]}
	case figureWord.text():
		insist(len(rest) == 3)
		return figureLine{api.StemFigure{Side: parseSide(rest[0]), Rank: parseNumber(rest[1]), Hands: parseNumber(rest[2])}}
	case sceneWord.text():
		insist(len(rest) == 4)
		return sceneLine{api.StemScene{Knocks: parseNumber(rest[0]), Moved: parseList(rest[1]), Rest: parseList(rest[2]), Taken: parseList(rest[3])}}
	}
	panic(noSheet{})
}

func parseSide(w string) api.StemSide {
	n := slices.Index(sides(), w)
	insist(n >= 0)
	return api.StemLeft + api.StemSide(n)
}

func parseList(w string) []int {
	if w == emptyList {
		return nil
	}
	return parseNumbers(strings.Split(w, ","))
}

func parseNumbers(words []string) []int {
	var list []int
	for _, w := range words {
		list = append(list, parseNumber(w))
	}
	return list
}

// parseNumber returns a number, which has one digit.
func parseNumber(w string) int {
	insist(len(w) == 1)
	n := 0
	for _, c := range w {
		insist('0' <= c && c <= '9')
		n = int(c - '0')
	}
	return n
}
