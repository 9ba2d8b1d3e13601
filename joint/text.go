package joint

import (
	"strconv"
	"strings"

	"kelir/api"
)

// The first words of lines.
const (
	figureWord = "figure"
	limbWord   = "limb"
	endWord    = "end"
)

const (
	digits     = 2
	checkWide  = 3
	checkPrime = 179
)

// line is what a line tells.
type line interface{ words() []string }

type figureLine struct{ stand int }

type limbLine struct{ api.JointLimb }

type endLine struct{ check int }

func (l figureLine) words() []string { return []string{figureWord, strconv.Itoa(l.stand)} }

func (l limbLine) words() []string {
	out := []string{limbWord}
	for _, n := range [...]int{l.Parent, l.Length, l.Low, l.High, l.Wear} {
		out = append(out, strconv.Itoa(n))
	}
	return out
}

func (l endLine) words() []string {
	check := strconv.Itoa(l.check)
	return []string{endWord, strings.Repeat("0", checkWide-len(check)) + check}
}

func writeLine(l line) string { return strings.Join(l.words(), " ") }

func write(f api.JointFigure) string {
	lines := []string{writeLine(figureLine{f.Stand})}
	for _, limb := range f.Limbs {
		lines = append(lines, writeLine(limbLine{limb}))
	}
	return strings.Join(lines, "\n") + "\n" + endOf(lines) + "\n"
}

// endOf returns the line that ends a sheet with these lines.
func endOf(lines []string) string { return writeLine(endLine{sumOf(lines) % checkPrime}) }

func sumOf(lines []string) int {
	all := 0
	for n, l := range lines {
		for place := range len(l) {
			all += int(l[place]) * (place + 1) * (n + 1)
		}
	}
	return all
}

// noSheet is why a string is given up: it has not the form of a sheet.
type noSheet struct{}

// parse returns the figure of a sheet, whether it is as defined or not.
func parse(text string) (f api.JointFigure, e api.Errno) {
	defer func() {
		switch found := recover().(type) {
		case nil:
		case noSheet:
			f, e = api.JointFigure{}, api.ErrText
		default:
			panic(found)
		}
	}()
	lines := linesOf(text)
	last := len(lines) - 1
	insist(last >= 1)
	f.Stand = numbersOf(lines[0], figureWord, 1)[0]
	for _, l := range lines[1:last] {
		f.Limbs = append(f.Limbs, parseLimb(l))
	}
	insist(lines[last] == endOf(lines[:last]))
	return f, api.OK
}

func insist(is bool) {
	if !is {
		panic(noSheet{})
	}
}

func linesOf(text string) []string {
	all, ended := strings.CutSuffix(text, "\n")
	insist(ended)
	return strings.Split(all, "\n")
}

func parseLimb(l string) api.JointLimb {
	n := numbersOf(l, limbWord, 5)
	return api.JointLimb{Parent: n[0], Length: n[1], Low: n[2], High: n[3], Wear: n[4]}
}

// numbersOf returns the numbers of a line behind its first word.
func numbersOf(l, word string, many int) []int {
	words := strings.Split(l, " ")
	insist(len(words) == 1+many && words[0] == word)
	var out []int
	for _, w := range words[1:] {
		out = append(out, parseNumber(w))
	}
	return out
}

func parseNumber(word string) int {
	figures, negative := strings.CutPrefix(word, "-")
	insist(within(len(figures), 1, digits))
	n := 0
	for _, c := range figures {
		insist('0' <= c && c <= '9')
		n = 10*n + int(c-'0')
	}
	if negative {
		n = -n
	}
	// What would be written otherwise has a zero too many, or a sign.
	insist(word == strconv.Itoa(n))
	return n
}
