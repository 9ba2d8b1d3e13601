package branch_test

import (
	"fmt"
	"slices"
	"strings"
	"testing"

	"kelir/api"
	"kelir/branch"
)

// sealed returns the book with these lines, and with the right CHECK.
func sealed(lines ...string) string {
	sum, text := 0, ""
	for n, line := range lines {
		for place, c := range []byte(line) {
			sum += int(c) * (place + 1) * (n + 1)
		}
		text += line + "\n"
	}
	return text + fmt.Sprintf("end %03d\n", sum%223)
}

func empty(s api.BranchStory) bool { return sameStory(s, api.BranchStory{}) }

const smallText = "story 1\nscene 0 1 1 -\nrule 0 1\nend 084\n"

// writtenStory is a story with any numbers that a scene can have.
func writtenStory(g interface{ IntN(int) int }, s api.BranchStory) api.BranchStory {
	return with(s, func(s *api.BranchStory) {
		for n := range s.Scenes {
			least := 1 + g.IntN(240)
			s.Scenes[n] = api.BranchScene{Part: g.IntN(3), Least: least, Most: least + g.IntN(241-least), Loose: g.IntN(2) == 0, Formula: g.IntN(2) == 0}
		}
	})
}

// P9.8: the chapter's example, and stories with more of everything, also such that have no plays.
func TestPrint(t *testing.T) {
	linesS := []string{"story 3", "scene 0 40 50 !", "battle 0 20 30 -", "scene 1 50 60 -", "battle 1 30 40 -", "scene 2 55 70 !", "rule 0 3 1 7", "rule 1 4 2", "rule 1 2", "rule 2 5", "rule 2 5 6", "rule 2 6"}
	linesT := slices.Clone(linesS)
	linesT[3] = "scene 1 50 60 !"
	longest := append([]string{"story 6"}, slices.Repeat([]string{"battle 2 240 240 !"}, 8)...)
	for i, x := range []struct {
		s    api.BranchStory
		want string
	}{
		{smallStory(), smallText}, {smallStory(), sealed("story 1", "scene 0 1 1 -", "rule 0 1")}, {storyS(), sealed(linesS...)}, {storyT(), sealed(linesT...)},
		{deadStory(), sealed("story 2", "scene 0 1 1 -", "rule 0 2 1")}, {story(1, scenes(formula(battle(2, 9, 240))), rule(0, 1, 1, 1, 1)), sealed("story 1", "battle 2 9 240 !", "rule 0 1 1 1 1")},
		{longestStory(), sealed(append(longest, slices.Repeat([]string{"rule 5 13 13 13 13"}, 10)...)...)},
		// rules are in their own order
		{plain(2, 1, rule(1, 2), rule(0, 1), rule(1, 2)), sealed("story 2", "scene 0 1 1 -", "rule 1 2", "rule 0 1", "rule 1 2")},
	} {
		if y, e := branch.Print(x.s); e != api.OK || y != x.want {
			t.Errorf("%d: %q %v", i, y, e)
		}
	}
}

// P9.8, P0.11: what was written is read as what was written.
func TestReadWhatWasPrinted(t *testing.T) {
	g := random(31)
	stories := goodStories()
	for range 1000 {
		s := randomStory(g)
		stories = append(stories, s, writtenStory(g, s))
	}
	zeros := met{}
	for _, s := range stories {
		text, e := branch.Print(s)
		if e != api.OK || len(text) > api.BranchText {
			t.Fatal(s, text, e)
		}
		if y, e := branch.Read(text); e != api.OK || !sameStory(y, s) {
			t.Fatalf("%q %v %v", text, y, e)
		}
		check := text[len(text)-4:]
		zeros.note(len(check) - len(strings.TrimLeft(check, "0")))
	}
	zeros.atLeast(t, 3, "0", "1", "2")
}

// badDigits are no numbers of a book.
func badDigits() []string {
	return []string{"", "00", "01", "09", "000", "001", "010", "0000", "0001", "1000", "9999", "-1", "-0", "+1", "x", "1x", "x1", "/", ":", "1/", "1:", "/1", ";1", ".1", "1.", "é", "\xff", "\x00", "²", "\u0660", "1\u0661", "0x1", "1_0", "-", "!", "4294967297", "18446744073709551617"}
}

func badFirstLines() []string {
	return []string{"Story 1", "stories 1", "stor 1", "1", " story 1", "story 1 ", "story", "story ", "story 1 1", "story  1", "story\t1", "story 1\r", "story1", "story,1", "scene 1", "battle 1", "rule 1", "end 1", "story story 1", "story one", "story 1 -", "", " ", "-"}
}

func badSceneLines() []string {
	return []string{"Scene 0 1 1 -", "scenes 0 1 1 -", "scen 0 1 1 -", "scnee 0 1 1 -", "Battle 0 1 1 -", "battles 0 1 1 -", "battl 0 1 1 -", "0 1 1 -", " scene 0 1 1 -", "scene 0 1 1 - ", "scene", "scene ", "battle", "scene 0", "scene 0 1", "scene 0 1 1", "battle 0 1 1", "scene 0 1 1 ", "scene 0 1 -", "scene 0 -", "scene -", "scene 0 1 1 1", "scene 0 1 1 - -", "scene 0 1 1 - !", "scene 0 1 1 !!", "scene 0 1 1 --", "scene 0 1 1 !-", "scene 0 1 1 ?", "scene 0 1 1 *", "scene 0 1 1 x", "scene 0 1 1 \u2013", "scene 0 1 1 1 -", "scene 0 1 1-", "scene - 0 1 1", "scene  0 1 1 -", "scene 0  1 1 -", "scene 0 1 1  -", "scene\t0 1 1 -", "scene 0 1 1\t-", "scene 0 1 1 -\r", "scene 0,1,1,-", "story 0 1 1 -", "rule 0 1 1 -", "end 0 1 1 -", "story 1", "end 084", "scene battle 0 1 1 -", "loose 0 1 1 -", "", " ", "-", "!"}
}

func badRuleLines() []string {
	return []string{"Rule 0 1", "rules 0 1", "rul 0 1", "rlue 0 1", "0 1", " rule 0 1", "rule 0 1 ", "rule", "rule ", "rule 0 ", "rule  0 1", "rule 0  1", "rule\t0 1", "rule 0\t1", "rule 0 1\r", "rule 0,1", "rule 0 1 -", "rule 0 -", "rule - 1", "rule 0 1 !", "rule rule 0 1", "end 0 1", "story 0 1", "scene 0 1", "battle 0 1", "story 1", "end 084", "rule 0 one", "rule 0: 1", "rule 0 to 1", "", " ", "-"}
}

// P9.8: strings that have not the form, with the right CHECK where there is one.
func TestReadForms(t *testing.T) {
	const first, second, third = "story 1", "scene 0 1 1 -", "rule 0 1"
	texts := []string{
		"", "\n", "\n\n", "end 000\n", first, first + "\n", first + "\n" + second + "\n" + third, first + "\n" + second + "\n" + third + "\n", sealed(), sealed(""), sealed("", ""), sealed(second), sealed(third), sealed("end 000"), sealed(second, third), sealed(second, first, third), sealed(third, second, first), sealed(first, first), sealed(first, first, second, third), sealed(first, second, first, third), sealed(first, second, third, first),
		// scenes stand before rules
		sealed(first, third, second), sealed(first, second, third, second), sealed(first, third, second, third), sealed(first, third, "battle 0 1 1 !"),
		smallText[1:], smallText + "\n", "\n" + smallText, strings.TrimSuffix(smallText, "\n"), smallText + smallText, smallText + "end 084\n", smallText + "end 084", smallText + " ", sealed("", first, second, third), sealed(first, "", second, third), sealed(first, second, "", third), sealed(first, second, third, ""), sealed(first, second, third, "end 084"), sealed(first, second, "end 000", third),
		strings.ReplaceAll(smallText, "\n", "\r\n"), strings.ReplaceAll(smallText, "\n", " "), strings.ReplaceAll(smallText, "\n", "\n\n"), strings.Repeat("x", 400), strings.Repeat("\n", 400), strings.Repeat(" ", 400), smallText + strings.Repeat("\n", 361),
	}
	for _, end := range []string{"end 085", "end 083", "end 84", "end 084084", "end 0084", "end 0840", "end 307", "end", "end ", "End 084", "end  084", "end 084 ", " end 084", "084", "end -84", "end +84", "end 08E", "end 084 084", "end 000", "end 530", "end\t084", "end 0 8 4", "ende 084", "en 084", "story 084", "rule 084", "end 084\r", "end 08\u0664"} {
		texts = append(texts, strings.Replace(smallText, "end 084", end, 1))
	}
	for _, number := range badDigits() {
		texts = append(texts, sealed("story "+number, second, third), sealed(first, "scene "+number+" 1 1 -", third), sealed(first, "scene 0 "+number+" 1 -", third), sealed(first, "battle 0 1 "+number+" -", third), sealed(first, second, "rule "+number+" 1"), sealed(first, second, "rule 0 "+number), sealed(first, second, "rule 0 1 "+number), sealed(first, second, "rule 0 "+number+" 1"), sealed(first, second, "rule "+number))
	}
	for _, line := range badFirstLines() {
		texts = append(texts, sealed(line, second, third), sealed(line))
	}
	for _, line := range badSceneLines() {
		texts = append(texts, sealed(first, line), sealed(first, second, line), sealed(first, line, second, third))
	}
	for _, line := range badRuleLines() {
		texts = append(texts, sealed(first, line), sealed(first, second, line), sealed(first, second, third, line), sealed(first, second, line, third))
	}
	for i, text := range texts {
		if y, e := branch.Read(text); e != api.ErrText || !empty(y) {
			t.Errorf("%d: %q %v %v", i, text, y, e)
		}
	}
}

// P9.8: CHECK has three digits, neither more nor fewer.
func TestReadZeros(t *testing.T) {
	g := random(34)
	seen := met{}
	for range 600 {
		s := writtenStory(g, randomStory(g))
		text, _ := branch.Print(s)
		if !strings.Contains(text, "end 0") {
			continue
		}
		seen.note("two zeros: ", strings.Contains(text, "end 00"))
		if y, e := branch.Read(text); e != api.OK || !sameStory(y, s) {
			t.Fatalf("%q %v %v", text, y, e)
		}
		for _, end := range []string{"end ", "end 00", "end  "} {
			if y, e := branch.Read(strings.Replace(text, "end 0", end, 1)); e != api.ErrText || !empty(y) {
				t.Errorf("%q %v %v", text, y, e)
			}
		}
	}
	seen.atLeast(t, 5, "two zeros: true", "two zeros: false")
}

// P9.8: these have the form, and the right CHECK, and are no stories: a book has any numbers, and any number of scenes, of rules and of motifs.
func TestReadStoriesThatAreNone(t *testing.T) {
	const first, second, third = "story 1", "scene 0 1 1 -", "rule 0 1"
	many := func(scenes, rules int) string {
		return sealed(slices.Concat([]string{first}, slices.Repeat([]string{second}, scenes), slices.Repeat([]string{third}, rules))...)
	}
	texts := []string{
		many(0, 0), many(0, 1), many(1, 0), many(2, 0), many(9, 1), many(9, 10), many(1, 11), many(8, 11), many(1, 30),
		// 2 in place of 1 in the eighth byte of the third line is 24 more
		strings.Replace(strings.Replace(smallText, "rule 0 1", "rule 0 2", 1), "084", "108", 1),
		sealed(first, "scene 0 1 1 -", "rule 0 1 1 1 1 1"), sealed("story 6", second, "rule 0 1 1 1 1", "rule 1 2 2 2 2", "rule 2 3 3 3 3", "rule 3 4 4 4 4", "rule 4 5 5 5 5", "rule 5 6", "rule 5 6"), sealed("story 2", second, "rule 0 1 1 1", "rule 1 2 2 2 2"),
	}
	for _, number := range []string{"0", "2", "7", "10", "999"} {
		texts = append(texts, sealed("story "+number, second, third), sealed("story "+number))
	}
	texts = slices.DeleteFunc(texts, func(text string) bool { return text == sealed("story 2", second, third) })
	for _, numbers := range []string{"3 1 1", "10 1 1", "999 1 1", "0 0 1", "0 2 1", "0 241 241", "0 1 0", "0 1 241", "0 999 999", "0 1 999"} {
		texts = append(texts, sealed(first, "scene "+numbers+" -", third), sealed(first, second, "battle "+numbers+" !", third), sealed(first, "battle "+numbers+" -", second, third))
	}
	for _, numbers := range []string{"0", "1", "999", "1 1", "1 2", "0 0", "0 2", "0 10", "0 999", "999 1", "0 1 0", "0 1 1 2", "0 1 1 1 1 1", "0 1 1 1 1 1 1 1 1 1 1 1 1"} {
		texts = append(texts, sealed(first, second, "rule "+numbers), sealed(first, second, third, "rule "+numbers), sealed(first, second, "rule "+numbers, third))
	}
	for i, text := range texts {
		if y, e := branch.Read(text); e != api.ErrArg || !empty(y) {
			t.Errorf("%d: %q %v %v", i, text, y, e)
		}
	}
	// a wrong CHECK comes first
	if y, e := branch.Read(strings.Replace(smallText, "rule 0 1", "rule 0 2", 1)); e != api.ErrText || !empty(y) {
		t.Error(y, e)
	}
	// the same lines with numbers that are as defined, and as much of everything as there may be
	for i, text := range []string{many(1, 1), many(8, 10), sealed("story 2", second, third), sealed("story 6", second, "rule 5 6"), sealed(first, "battle 2 240 240 !", third), sealed(first, second, "rule 0 1 1 1 1")} {
		if y, e := branch.Read(text); e != api.OK || empty(y) {
			t.Errorf("%d: %q %v %v", i, text, y, e)
		}
	}
}

// P9.8: a string that is too long is so, whatever is in it; one that has the most bytes is read.
func TestReadLong(t *testing.T) {
	lines := slices.Concat([]string{"story 1"}, slices.Repeat([]string{"scene 0 1 1 -"}, 8), slices.Repeat([]string{"rule 0 1 1"}, 24), []string{"rule 0 1"})
	longest := sealed(lines...)
	if y, e := branch.Read(longest); len(longest) != api.BranchText+1 || e != api.ErrLong || !empty(y) {
		t.Error(len(longest), y, e)
	}
	lines[0] = "story"
	if y, e := branch.Read(sealed(lines...)); e != api.ErrText || !empty(y) {
		t.Error(y, e)
	}
	lines[0], lines[1] = "story 1", "battle 0 1 1 -"
	lines[33] = "rule 1"
	longest = sealed(lines...)
	if y, e := branch.Read(longest); len(longest) != api.BranchText || e != api.ErrArg || !empty(y) {
		t.Error(len(longest), y, e)
	}
	for i, text := range []string{longest + "\n", strings.Repeat("x", 401), smallText + strings.Repeat("\n", 400), strings.Repeat("x", 1<<16)} {
		if y, e := branch.Read(text); e != api.ErrLong || !empty(y) {
			t.Errorf("%d: %v %v", i, y, e)
		}
	}
}

// P9.8: one digit that was changed is noticed, in the numbers and in CHECK.
func TestReadNoticesDigits(t *testing.T) {
	g := random(32)
	stories := goodStories()
	for range 100 {
		stories = append(stories, writtenStory(g, randomStory(g)))
	}
	for _, s := range stories {
		text, _ := branch.Print(s)
		for i := range text {
			if text[i] < '0' || text[i] > '9' {
				continue
			}
			for d := byte('0'); d <= '9'; d++ {
				if d == text[i] {
					continue
				}
				if y, e := branch.Read(text[:i] + string(d) + text[i+1:]); e != api.ErrText || !empty(y) {
					t.Fatalf("%q %d %c: %v %v", text, i, d, y, e)
				}
			}
		}
	}
}

// P9.8: a string that is read is the book of what was read.
func TestReadIsStrict(t *testing.T) {
	g := random(33)
	const some = "0123456789 -!,\n+.abcelnorsty\r\x00\xff"
	read := 0
	for range 20000 {
		lines := []string{"story 3", "scene 0 40 50 !", "battle 1 20 30 -", "rule 0 3 1", "rule 1 2", "rule 2 4 3 4", "rule 2 3"}
		n := g.IntN(len(lines))
		i := g.IntN(len(lines[n]) + 1)
		c := string(some[g.IntN(len(some))])
		rest := lines[n][i:]
		if len(rest) > 0 && g.IntN(2) == 0 {
			rest = rest[1:]
		}
		lines[n] = lines[n][:i] + c + rest
		text := sealed(lines...)
		y, e := branch.Read(text)
		if e != api.OK {
			if e != api.ErrText && e != api.ErrArg || !empty(y) {
				t.Fatalf("%q %v %v", text, y, e)
			}
			continue
		}
		read++
		if again, e := branch.Print(y); e != api.OK || again != text {
			t.Fatalf("%q %q %v", text, again, e)
		}
	}
	if read < 100 {
		t.Error(read)
	}
}
