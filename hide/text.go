package hide

import (
	"slices"
	"strconv"
	"strings"

	"kelir/api"
)

// word is the first word of a line.
type word int

const (
	registerWord word = iota
	measuresWord
	hideWord
	endWord
)

func (w word) text() string {
	return [...]string{registerWord: "register", measuresWord: "measures", hideWord: "hide", endWord: "end"}[w]
}

const (
	digits     = 4
	checkWide  = 3
	checkPrime = 199
)

// kinds are the words of the kinds of measures, from that of api.HideAlong on.
func kinds() []string { return []string{"along", "across"} }

// line is what a line tells.
type line interface{ words() []string }

type registerLine struct {
	off, mends    int
	along, across api.Span
}

type kindsLine struct{ kinds []api.HideKind }

type sizesLine struct{ sizes []int }

type endLine struct{ check int }

func (l registerLine) words() []string {
	return withNumbers(registerWord, l.off, l.mends, l.along.Low, l.along.High, l.across.Low, l.across.High)
}

func (l kindsLine) words() []string {
	out := []string{measuresWord.text()}
	for _, kind := range l.kinds {
		out = append(out, kinds()[kind-api.HideAlong])
	}
	return out
}

func (l sizesLine) words() []string { return withNumbers(hideWord, l.sizes...) }

func (l endLine) words() []string {
	check := strconv.Itoa(l.check)
	return []string{endWord.text(), strings.Repeat("0", checkWide-len(check)) + check}
}

func withNumbers(first word, numbers ...int) []string {
	out := []string{first.text()}
	for _, n := range numbers {
		out = append(out, strconv.Itoa(n))
	}
	return out
}

func textOf(l line) string { return strings.Join(l.words(), " ") }

func linesOf(r api.HideRegister) []line {
	list := []line{registerLine{r.Off, r.Mends, r.Along, r.Across}, kindsLine{r.Kinds}}
	for _, sizes := range r.Hides {
		list = append(list, sizesLine{sizes})
	}
	return list
}

func write(r api.HideRegister) string {
	var texts []string
	for _, l := range linesOf(r) {
		texts = append(texts, textOf(l))
	}
	return strings.Join(append(texts, endOf(texts)), "\n") + "\n"
}

// endOf returns the line that ends a text with these lines.
func endOf(texts []string) string { return textOf(endLine{sumOf(texts) % checkPrime}) }

func sumOf(texts []string) int {
	all := 0
	for n, l := range texts {
		for place := range len(l) {
			all += int(l[place]) * (place + 1) * (n + 1)
		}
	}
	return all
}

// noText is why a string is given up: it has not the form of a text.
type noText struct{}

func insist(is bool) {
	if !is {
		panic(noText{})
	}
}

// parse returns the register of a text, whether it is as defined or not.
func parse(text string) (r api.HideRegister, e api.Errno) {
	defer func() {
		switch given := recover().(type) {
		case nil:
		case noText:
			r, e = api.HideRegister{}, api.ErrText
		default:
			panic(given)
		}
	}()
	all, ended := strings.CutSuffix(text, "\n")
	insist(ended)
	texts := strings.Split(all, "\n")
	last := len(texts) - 1
	insist(last >= 2)
	for n, t := range texts[:last] {
		r = with(r, parseLine(t), n)
	}
	insist(texts[last] == endOf(texts[:last]))
	return r, api.OK
}

// with returns a register to which was added what its line of this number tells.
func with(r api.HideRegister, l line, n int) api.HideRegister {
	switch told := l.(type) {
	case registerLine:
		insist(n == 0)
		r.Off, r.Mends, r.Along, r.Across = told.off, told.mends, told.along, told.across
	case kindsLine:
		insist(n == 1)
		r.Kinds = told.kinds
	case sizesLine:
		insist(n >= 2)
		r.Hides = append(r.Hides, told.sizes)
	}
	return r
}

// parseLine returns what a line that does not end a text tells.
func parseLine(text string) line {
	words := strings.Split(text, " ")
	rest := words[1:]
	switch words[0] {
	case registerWord.text():
		insist(len(rest) == 6)
		n := parseNumbers(rest)
		return registerLine{n[0], n[1], api.Span{Low: n[2], High: n[3]}, api.Span{Low: n[4], High: n[5]}}
	case measuresWord.text():
		return kindsLine{parseKinds(rest)}
	case hideWord.text():
		return sizesLine{parseNumbers(rest)}
	}
	panic(noText{})
}

func parseKinds(words []string) []api.HideKind {
	var list []api.HideKind
	for _, w := range words {
		n := slices.Index(kinds(), w)
		insist(n >= 0)
		list = append(list, api.HideAlong+api.HideKind(n))
	}
	return list
}

func parseNumbers(words []string) []int {
	var list []int
	for _, w := range words {
		list = append(list, parseNumber(w))
	}
	return list
}

func parseNumber(w string) int {
	insist(within(len(w), 1, digits) && (w == "0" || w[0] != '0'))
	n := 0
	for _, c := range w {
		insist('0' <= c && c <= '9')
		n = 10*n + int(c-'0')
	}
	return n
}
