package branch

import (
	"strconv"
	"strings"

	"kelir/api"
)

// word is the first word of a line.
type word int

const (
	storyWord word = iota
	sceneWord
	battleWord
	ruleWord
	endWord
)

func (w word) text() string {
	return [...]string{storyWord: "story", sceneWord: "scene", battleWord: "battle", ruleWord: "rule", endWord: "end"}[w]
}

const (
	digits      = 3
	checkPrime  = 223
	formulaMark = "!"
	noMark      = "-"
)

// line is a scene or a rule, as a line tells it.
type line interface{ numbers() []int }

type sceneLine struct{ api.BranchScene }

type ruleLine struct{ api.BranchRule }

func (l sceneLine) numbers() []int { return []int{l.Part, l.Least, l.Most} }

func (l ruleLine) numbers() []int { return append([]int{l.From}, l.To...) }

func linesOf(s api.BranchStory) []line {
	var list []line
	for _, scene := range s.Scenes {
		list = append(list, sceneLine{scene})
	}
	for _, rule := range s.Rules {
		list = append(list, ruleLine{rule})
	}
	return list
}

func textOf(l line) string {
	numbers := l.numbers()
	switch told := l.(type) {
	case sceneLine:
		return withNumbers(firstWord(told.Loose), numbers) + " " + markOf(told.Formula)
	default:
		return withNumbers(ruleWord, numbers)
	}
}

// firstWord returns that of the line of a scene.
func firstWord(loose bool) word {
	if loose {
		return battleWord
	}
	return sceneWord
}

func markOf(formula bool) string {
	if formula {
		return formulaMark
	}
	return noMark
}

func withNumbers(first word, numbers []int) string {
	text := first.text()
	for _, n := range numbers {
		text += " " + strconv.Itoa(n)
	}
	return text
}

func write(s api.BranchStory) string {
	texts := []string{withNumbers(storyWord, []int{s.Episodes})}
	for _, l := range linesOf(s) {
		texts = append(texts, textOf(l))
	}
	return strings.Join(append(texts, endOf(texts)), "\n") + "\n"
}

// endOf returns the line that ends a book with these lines.
func endOf(texts []string) string {
	check := strconv.Itoa(sumOf(texts) % checkPrime)
	return endWord.text() + " " + strings.Repeat("0", digits-len(check)) + check
}

func sumOf(texts []string) int {
	all := 0
	for n, l := range texts {
		for place := range len(l) {
			all += int(l[place]) * (place + 1) * (n + 1)
		}
	}
	return all
}

// noBook is why a string is given up: it has not the form of a book.
type noBook struct{}

func insist(is bool) {
	if !is {
		panic(noBook{})
	}
}

// parse returns the story of a book, whether it is as defined or not.
func parse(text string) (s api.BranchStory, e api.Errno) {
	defer func() {
		switch given := recover().(type) {
		case nil:
		case noBook:
			s, e = api.BranchStory{}, api.ErrText
		default:
			panic(given)
		}
	}()
	all, ended := strings.CutSuffix(text, "\n")
	insist(ended)
	texts := strings.Split(all, "\n")
	last := len(texts) - 1
	insist(last >= 1)
	s.Episodes = parseStory(texts[0])
	for _, t := range texts[1:last] {
		s = with(s, parseLine(t))
	}
	insist(texts[last] == endOf(texts[:last]))
	return s, api.OK
}

// with returns a story to which was added what its next line tells.
func with(s api.BranchStory, l line) api.BranchStory {
	switch told := l.(type) {
	case sceneLine:
		insist(len(s.Rules) == 0)
		s.Scenes = append(s.Scenes, told.BranchScene)
	case ruleLine:
		s.Rules = append(s.Rules, told.BranchRule)
	}
	return s
}

func parseStory(text string) int {
	words := strings.Split(text, " ")
	insist(len(words) == 2 && words[0] == storyWord.text())
	return parseNumber(words[1])
}

func parseLine(text string) line {
	words := strings.Split(text, " ")
	rest := words[1:]
	switch words[0] {
	case sceneWord.text(), battleWord.text():
		insist(len(rest) == 4)
		n := parseNumbers(rest[:3])
		return sceneLine{api.BranchScene{Part: n[0], Least: n[1], Most: n[2], Loose: words[0] == battleWord.text(), Formula: parseMark(rest[3])}}
	case ruleWord.text():
		insist(len(rest) >= 1)
		n := parseNumbers(rest)
		return ruleLine{api.BranchRule{From: n[0], To: n[1:]}}
	}
	panic(noBook{})
}

func parseMark(w string) bool {
	insist(w == formulaMark || w == noMark)
	return w == formulaMark
}

func parseNumbers(words []string) []int {
	var list []int
	for _, w := range words {
		list = append(list, parseNumber(w))
	}
	return list
}

func parseNumber(w string) int {
	insist(within(len(w), 1, digits) && (w == "0" || w[0] != '0'))
	n := 0
	for _, c := range w {
		insist('0' <= c && c <= '9')
		n = 10*n + int(c-'0')
	}
	return n
}
