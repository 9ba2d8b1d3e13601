package night

import (
	"strconv"
	"strings"

	"kelir/api"
)

// word is the first word of a line.
type word int

const (
	nightWord word = iota
	sceneWord
	battleWord
	endWord
)

var words = [...]string{"night", "scene", "battle", "end"}

func (w word) text() string { return words[w] }

const (
	digits     = 3
	checkPrime = 181
	noWants    = "-"
)

// line is what a line tells.
type line interface{ words() []string }

type nightLine struct{ api.NightPlan }

type sceneLine struct{ api.NightScene }

type battleLine struct{ api.NightScene }

type endLine struct{ check int }

func (l nightLine) words() []string {
	out := []string{nightWord.text(), strconv.Itoa(l.Begin)}
	for _, window := range windows(l.NightPlan) {
		out = append(out, strconv.Itoa(window.Low), strconv.Itoa(window.High))
	}
	return out
}

func (l sceneLine) words() []string {
	return append([]string{sceneWord.text()}, wordsOfScene(l.NightScene)...)
}

func (l battleLine) words() []string {
	return append([]string{battleWord.text()}, wordsOfScene(l.NightScene)...)
}

func (l endLine) words() []string {
	check := strconv.Itoa(l.check)
	return []string{endWord.text(), strings.Repeat("0", digits-len(check)) + check}
}

func wordsOfScene(s api.NightScene) []string {
	wants := noWants
	if s.Wants >= 0 {
		wants = strconv.Itoa(s.Wants)
	}
	return []string{strconv.Itoa(s.Part), strconv.Itoa(s.Least), strconv.Itoa(s.Most), wants}
}

// lineOf returns the line of a scene, which is a battle if it may be left out.
func lineOf(s api.NightScene) line {
	if s.Loose {
		return battleLine{s}
	}
	return sceneLine{s}
}

func writeLine(l line) string { return strings.Join(l.words(), " ") }

func write(p api.NightPlan) string {
	lines := []string{writeLine(nightLine{p})}
	for _, s := range p.Scenes {
		lines = append(lines, writeLine(lineOf(s)))
	}
	return strings.Join(lines, "\n") + "\n" + endOf(lines) + "\n"
}

// endOf returns the line that ends a sheet with these lines.
func endOf(lines []string) string { return writeLine(endLine{sumOf(lines) % checkPrime}) }

func sumOf(lines []string) int {
	all := 0
	for n, l := range lines {
		for place := range len(l) {
			all += int(l[place]) * (place + 1) * (n + 1)
		}
	}
	return all
}

// noSheet is why a string is given up: it has not the form of a sheet.
type noSheet struct{}

// parse returns the plan of a sheet, whether it is as defined or not.
func parse(text string) (p api.NightPlan, e api.Errno) {
	defer func() {
		switch found := recover().(type) {
		case nil:
		case noSheet:
			p, e = api.NightPlan{}, api.ErrText
		default:
			panic(found)
		}
	}()
	lines := linesOf(text)
	last := len(lines) - 1
	insist(last >= 1)
	p = parseNight(lines[0])
	for _, l := range lines[1:last] {
		p.Scenes = append(p.Scenes, sceneOf(parseScene(l)))
	}
	insist(lines[last] == endOf(lines[:last]))
	return p, api.OK
}

func insist(is bool) {
	if !is {
		panic(noSheet{})
	}
}

func linesOf(text string) []string {
	all, ended := strings.CutSuffix(text, "\n")
	insist(ended)
	return strings.Split(all, "\n")
}

func parseNight(l string) api.NightPlan {
	list := strings.Split(l, " ")
	insist(len(list) == 8 && list[0] == nightWord.text())
	var n []int
	for _, w := range list[1:] {
		n = append(n, parseNumber(w))
	}
	return api.NightPlan{
		Begin: n[0],
		Stars: [2]api.Span{{Low: n[1], High: n[2]}, {Low: n[3], High: n[4]}},
		Dawn:  api.Span{Low: n[5], High: n[6]},
	}
}

func parseScene(l string) line {
	list := strings.Split(l, " ")
	insist(len(list) == 5)
	s := api.NightScene{Part: parseNumber(list[1]), Least: parseNumber(list[2]), Most: parseNumber(list[3]), Wants: parseWants(list[4])}
	if list[0] == battleWord.text() {
		return battleLine{s}
	}
	insist(list[0] == sceneWord.text())
	return sceneLine{s}
}

// sceneOf returns the scene that a line tells, which is none of the other lines.
func sceneOf(l line) api.NightScene {
	switch found := l.(type) {
	case sceneLine:
		return found.NightScene
	case battleLine:
		found.Loose = true
		return found.NightScene
	}
	panic(noSheet{})
}

func parseWants(w string) int {
	if w == noWants {
		return -1
	}
	return parseNumber(w)
}

func parseNumber(w string) int {
	insist(within(len(w), 1, digits) && (w == "0" || w[0] != '0'))
	n := 0
	for _, c := range w {
		insist('0' <= c && c <= '9')
		n = 10*n + int(c-'0')
	}
	return n
}
