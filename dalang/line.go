package dalang

import (
	"strconv"
	"strings"

	"kelir/api"
)

// word is the first word of a line. Those of entries come first, and all are in the order of the kinds of api.
type word int

const (
	waitWord word = iota
	beginWord
	cueWord
	knockWord
	restWord
	playWord
	lendWord
	backWord
	packWord
	unpackWord
	undoWord
	nightWord
	programmeWord
	endsWord
	remainsWord
	askWord
	neverWord
	homeWord
	playedWord
	canWord
	firstWord
	outWord
	bestWord
	standsWord
	words
)

// shape is how a word is written, and how many numbers stand behind it.
type shape struct {
	text        string
	least, most int
}

// shapes returns those of all words.
func shapes() [words]shape {
	return [...]shape{
		waitWord:      {"wait", 1, 1},
		beginWord:     {"begin", 1, 1},
		cueWord:       {"cue", 2, 2},
		knockWord:     {"knock", 1, 1},
		restWord:      {"rest", 0, 0},
		playWord:      {"play", 1, 1},
		lendWord:      {"lend", 1, 1},
		backWord:      {"back", 2, 1 + api.HideMeasures},
		packWord:      {"pack", 0, api.ChestFigures},
		unpackWord:    {"unpack", 0, 0},
		undoWord:      {"undo", 0, 0},
		nightWord:     {"night", 0, 0},
		programmeWord: {"programme", 0, 0},
		endsWord:      {"ends", 0, 0},
		remainsWord:   {"remains", 0, 0},
		askWord:       {"ask", 0, 0},
		neverWord:     {"never", 1, 1},
		homeWord:      {"home", 0, 0},
		playedWord:    {"played", 0, 0},
		canWord:       {"can", 1, 1},
		firstWord:     {"first", 1, 1},
		outWord:       {"out", 1, 1},
		bestWord:      {"best", 0, 0},
		standsWord:    {"stands", 0, 0},
	}
}

func wordOf(k api.DalangKind) word { return waitWord + word(k-api.DalangWait) }

func wordOfTopic(k api.DalangTopic) word { return nightWord + word(k-api.DalangNight) }

func (w word) text() string { return shapes()[w].text }

// takes reports whether there are as many numbers as stand behind a word.
func (w word) takes(numbers []int) bool {
	return within(len(numbers), shapes()[w].least, shapes()[w].most)
}

// asks reports whether a word is that of a question.
func (w word) asks() bool { return w >= nightWord }

// line is one of an entry or of a question.
type line struct {
	first   word
	numbers []int
}

func (l line) entry() api.DalangEntry {
	return api.DalangEntry{Kind: api.DalangWait + api.DalangKind(l.first-waitWord), Numbers: l.numbers}
}

func (l line) question() api.DalangQuestion {
	return api.DalangQuestion{Kind: api.DalangNight + api.DalangTopic(l.first-nightWord), Numbers: l.numbers}
}

// joined returns numbers with a single blank between two of them.
func joined(numbers ...int) string {
	var texts []string
	for _, n := range numbers {
		texts = append(texts, strconv.Itoa(n))
	}
	return strings.Join(texts, " ")
}

func lineOf(x api.DalangEntry) string {
	text := wordOf(x.Kind).text()
	if len(x.Numbers) == 0 {
		return text
	}
	return text + " " + joined(x.Numbers...)
}

// parse returns a line of an entry or of a question, if a text is one.
func parse(text string) (line, bool) {
	texts := strings.Split(text, " ")
	all := shapes()
	first, is := find(all[:], func(s shape) bool { return s.text == texts[0] })
	if !is {
		return line{}, false
	}
	l := line{first: word(first)}
	for _, t := range texts[1:] {
		n, is := parseNumber(t)
		if !is {
			return line{}, false
		}
		l.numbers = append(l.numbers, n)
	}
	return l, l.first.takes(l.numbers)
}

// digits is how many the greatest number has.
const digits = 4

func parseNumber(text string) (int, bool) {
	if !within(len(text), 1, digits) || text[0] == '0' && text != "0" {
		return 0, false
	}
	n := 0
	for _, c := range text {
		if c < '0' || c > '9' {
			return 0, false
		}
		n = 10*n + int(c-'0')
	}
	return n, n <= api.DalangNumber
}
