package dalang

import (
	"strings"

	"kelir/api"
)

// linesOf returns the lines of a text that have a line feed at their end, and what is behind the last one of them.
func linesOf(text string) ([]string, string) {
	all := strings.Split(text, "\n")
	last := len(all) - 1
	return all[:last], all[last]
}

func (d *Desk) journal() string {
	text := ""
	for _, x := range d.entries {
		text += lineOf(x) + "\n"
	}
	return text
}

// replay makes all entries of a journal. It returns the number of the first line with which it cannot, or -1.
func (d *Desk) replay(journal string) (int, api.Errno) {
	lines, rest := linesOf(journal)
	for n, l := range lines {
		if e := d.enterLine(l); e != api.OK {
			return n, e
		}
	}
	if rest != "" {
		return len(lines), api.ErrText
	}
	return -1, api.OK
}

func (d *Desk) enterLine(text string) api.Errno {
	x, e := Parse(text)
	if e != api.OK {
		return api.ErrText
	}
	return d.Enter(x)
}

// replies enters or asks lines, one after the other, and returns the answers.
func (d *Desk) replies(lines []string) string {
	text := ""
	for _, l := range lines {
		text += d.reply(l) + "\n"
	}
	return text
}

func (d *Desk) reply(text string) string {
	if len(text) > api.DalangLine {
		return failure(api.ErrLong)
	}
	l, is := parse(text)
	switch {
	case !is:
		return failure(api.ErrText)
	case l.first.asks():
		return told(d.Ask(l.question()))
	}
	return noted(d.Enter(l.entry()))
}

func failure(e api.Errno) string { return "error " + joined(int(e)) }

// noted returns the answer to an entry.
func noted(e api.Errno) string {
	if e != api.OK {
		return failure(e)
	}
	return "noted"
}

// told returns the answer to a question.
func told(numbers []int, e api.Errno) string {
	switch {
	case e != api.OK:
		return failure(e)
	case len(numbers) == 0:
		return "nothing"
	}
	return joined(numbers...)
}
