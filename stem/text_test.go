package stem_test

import (
	"fmt"
	"slices"
	"strings"
	"testing"

	"kelir/api"
	"kelir/stem"
)

// sealed returns the sheet with these lines, and with the right CHECK.
func sealed(lines ...string) string {
	sum, text := 0, ""
	for n, line := range lines {
		for place, c := range []byte(line) {
			sum += int(c) * (place + 1) * (n + 1)
		}
		text += line + "\n"
	}
	return text + fmt.Sprintf("end %03d\n", sum%193)
}

func empty(p api.StemPlay) bool { return samePlay(p, api.StemPlay{}) }

const smallText = "stem 0 1\nfigure left 1 1\nscene 0 - - -\nend 080\n"

// P5.8: the chapter's example, and plays with more of everything, also such that cannot be played.
func TestPrint(t *testing.T) {
	linesA := []string{"stem 2 5 2 1 4", "figure left 5 1", "figure left 3 1", "figure right 4 1", "figure either 6 2", "figure either 2 1", "scene 1 2 0,1 -", "scene 2 0 1,2,4 -", "scene 1 3 0,1,2,4 -", "scene 0 - 2 3"}
	linesB := slices.Clone(linesA)
	linesB[8] = "scene 1 3 0,1,2,4 2"
	linesD := slices.Clone(linesA)
	linesD[7] = "scene 2 0,3 1,2,4 -"
	longest := append([]string{"stem 6 9 9 9 9 9 9"}, slices.Repeat([]string{"figure either 9 2"}, 6)...)
	longest = append(longest, slices.Repeat([]string{"scene 2 0,1,2,3,4,5 - 0,1,2,3,4,5"}, 5)...)
	for i, x := range []struct {
		p    api.StemPlay
		want string
	}{
		{smallPlay(), smallText}, {smallPlay(), sealed("stem 0 1", "figure left 1 1", "scene 0 - - -")}, {playA(), sealed(linesA...)}, {playB(), sealed(linesB...)}, {playD(), sealed(linesD...)}, {longestPlay(), sealed(longest...)},
		{with(smallPlay(), func(p *api.StemPlay) { p.Scenes[0] = api.StemScene{Moved: l(), Rest: l(), Taken: l()} }), smallText},
	} {
		if y, e := stem.Print(x.p); e != api.OK || y != x.want {
			t.Errorf("%d: %q %v", i, y, e)
		}
	}
	if y, e := stem.Print(longestPlay()); e != api.OK || len(y) != 305 {
		t.Error(len(y), e)
	}
}

// P5.8, P0.11: what was written is read as what was written.
func TestReadWhatWasPrinted(t *testing.T) {
	g := random(61)
	plays := []api.StemPlay{smallPlay(), playA(), playB(), playC(), playD(), greatestPlay(), longestPlay(), restlessPlay(g)}
	for range 1000 {
		plays = append(plays, randomPlay(g, whole))
	}
	zeros := met{}
	for _, p := range plays {
		text, e := stem.Print(p)
		if e != api.OK || len(text) > api.StemText {
			t.Fatal(p, text, e)
		}
		if y, e := stem.Read(text); e != api.OK || !samePlay(y, p) {
			t.Fatalf("%q %v %v", text, y, e)
		}
		check := text[len(text)-4:]
		zeros.note(len(check) - len(strings.TrimLeft(check, "0")))
	}
	zeros.atLeast(t, 5, "0", "1", "2")
}

// P5.8: strings that have not the form, with the right CHECK where there is one.
func TestReadForms(t *testing.T) {
	const first, second, third = "stem 0 1", "figure left 1 1", "scene 0 - - -"
	texts := []string{
		"", "\n", "end 000\n", first, first + "\n", sealed(), sealed(""), sealed(second), sealed(third), sealed(second, third),
		// lines that are not in order
		sealed(first, first, second, third), sealed(first, second, first, third), sealed(first, second, third, first), sealed(second, first, third), sealed(second, third, first), sealed(third, first, second), sealed(first, third, second), sealed(first, second, third, second), sealed(first, second, third, second, third),
		smallText[1:], smallText + "\n", "\n" + smallText, strings.TrimSuffix(smallText, "\n"), smallText + smallText, sealed(first, "", second, third), sealed(first, second, "", third), sealed(first, second, third, ""), sealed("", first, second, third),
		sealed(first, second, third, "end 080"), sealed(first, second, "end 000", third), sealed("end 000"), first + "\n" + second + "\n" + third + "\n",
		strings.ReplaceAll(smallText, "\n", "\r\n"), strings.Repeat("x", 400), strings.Repeat("\n", 400), strings.Repeat(" ", 400), smallText + strings.Repeat("\n", 350),
	}
	for _, end := range []string{"end 081", "end 079", "end 80", "end 0080", "end 273", "end", "end ", "End 080", "end  080", "end 080 ", " end 080", "080", "end -80", "end +80", "end 08O", "end 080 080", "end 000", "end 800", "end\t080", "end 0 8 0", "end 80 ", "ende 080"} {
		texts = append(texts, strings.Replace(smallText, "end 080", end, 1))
	}
	for _, line := range badStems() {
		texts = append(texts, sealed(line, second, third))
	}
	for _, line := range badFigures() {
		texts = append(texts, sealed(first, line, third), sealed(first, second, line, third), sealed(first, line, second, third))
	}
	for _, line := range badSceneLines() {
		texts = append(texts, sealed(first, second, line), sealed(first, second, third, line), sealed(first, second, line, third))
	}
	for i, text := range texts {
		if y, e := stem.Read(text); e != api.ErrText || !empty(y) {
			t.Errorf("%d: %q %v %v", i, text, y, e)
		}
	}
}

func badStems() []string {
	return []string{
		"Stem 0 1", "stems 0 1", "ste 0 1", "0 1", " stem 0 1", "stem", "stem ", "stem 0 ", "stem 0 1 ", "stem  0 1", "stem 0  1", "stem\t0 1", "stem 0\t1", "stem 0 1\r", "stem 0,1", "stem 0 1,2", "stem 0 1 1,", "stem - 1", "stem 0 -", "stem 0 1 -",
		"stem 00 1", "stem 0 01", "stem 0 00", "stem 10 1", "stem 0 10", "stem 0 1 11", "stem -1 1", "stem 0 -1", "stem -0 1", "stem +0 1", "stem 0 +1", "stem x 1", "stem 0 x", "stem / 1", "stem 0 :", "stem é 1", "stem 0 \xff", "stem 0 ²", "stem \u0660 1", "stem 0 4294967297", "stem 0 18446744073709551617", "stem 0 1\x00", "stem 0 1.", "stem left 1",
	}
}

func badFigures() []string {
	return []string{
		"Figure left 1 1", "figures left 1 1", "figur left 1 1", "left 1 1", " figure left 1 1", "figure", "figure ", "figure left", "figure left 1", "figure left 1 ", "figure left 1 1 ", "figure left 1 1 1", "figure left 1  1", "figure left  1 1", "figure\tleft 1 1", "figure left 1\t1", "figure left 1 1\r", "figure left 1,1",
		"figure  1 1", "figure Left 1 1", "figure lef 1 1", "figure lefty 1 1", "figure LEFT 1 1", "figure both 1 1", "figure 1 1 1", "figure 0 1 1", "figure - 1 1", "figure left,right 1 1", "figure left right 1 1", "figure righ 1 1", "figure rights 1 1", "figure eithe 1 1", "figure 1 left 1", "figure é 1 1",
		"figure left 01 1", "figure left 10 1", "figure left 1 01", "figure left 1 10", "figure left -1 1", "figure left 1 -1", "figure left +1 1", "figure left 1 +1", "figure left x 1", "figure left 1 x", "figure left / 1", "figure left 1 :", "figure left - 1", "figure left 1 -", "figure left 1, 1", "figure left \u0661 1", "figure left 1 \xff",
	}
}

func badSceneLines() []string {
	out := []string{
		"Scene 0 - - -", "scenes 0 - - -", "scen 0 - - -", "0 - - -", " scene 0 - - -", "scene", "scene ", "scene 0", "scene 0 -", "scene 0 - -", "scene 0 - - ", "scene 0 - - - -", "scene 0 - - - ", "scene  0 - - -", "scene 0  - - -", "scene\t0 - - -", "scene 0 - - -\r", "scene - - - -", "scene - - -", "scene 0 0 0 0 0",
		"scene 00 - - -", "scene 10 - - -", "scene 01 - - -", "scene -1 - - -", "scene +0 - - -", "scene x - - -", "scene 0, - - -", "scene 0,1 - - -", "scene / - - -", "scene : - - -", "scene é - - -", "scene \xff - - -", "stem scene 0 - - -", "end 0 - - -", "tree 0 - - -",
	}
	for _, list := range []string{"", "--", "-,", ",-", "-,0", "0,-", ",", "0,", ",0", "0,,1", "0,1,", ",0,1", "01", "00", "10", "0,10", "10,0", "0,01", "0;1", "0.1", "-0", "-1", "+1", "0,-1", "x", "0,x", "/", ":", "0:1", "0,\t1", "\u0660", "\xff", "é", "²"} {
		out = append(out, "scene 0 "+list+" - -", "scene 0 - "+list+" -", "scene 0 - - "+list)
	}
	return out
}

// P5.8: these have the form, and the right CHECK, and are no plays: a sheet has any number of HEIGHTs, of figures and of scenes, any numbers, and lists of any length in any order.
func TestReadPlaysThatAreNone(t *testing.T) {
	const first, second, third = "stem 0 1", "figure left 1 1", "scene 0 - - -"
	many := func(line string, times int) []string { return slices.Repeat([]string{line}, times) }
	texts := []string{
		sealed("stem 0"), sealed("stem 9"), sealed("stem 0", second, third), sealed(first), sealed(first, second), sealed(first, third), sealed(first, second, second), sealed(first, third, third), sealed("stem 0 1 1 1 1 1 1 1", second, third), sealed("stem 0 1 1 1 1 1 1 1 1 1 1 1 1 1 1 1", second, third),
		sealed(append(append([]string{first}, many(second, 7)...), third)...), sealed(append([]string{first, second}, many(third, 6)...)...), sealed(append([]string{first}, many(second, 15)...)...), sealed(append([]string{first}, many(third, 15)...)...),
		sealed("stem 2 1", second, third), sealed("stem 9 1", second, third), sealed("stem 0 0", second, third), sealed("stem 0 1 0", second, third), sealed(first, "figure left 0 1", third), sealed(first, "figure left 1 0", third), sealed(first, "figure right 1 3", third), sealed(first, second, "figure either 9 9", third), sealed(first, "figure either 0 0", third),
		sealed(first, second, "scene 3 - - -"), sealed(first, second, "scene 9 - - -"), sealed(first, second, third, "scene 4 - - -"),
	}
	for _, list := range []string{"1", "9", "0,0", "0,1", "1,0", "9,8", "9,9,9", "0,0,0,0,0,0,0,0,0,0,0,0", "0,1,2,3,4,5,6,7,8,9"} {
		texts = append(texts, sealed(first, second, "scene 0 "+list+" - -"), sealed(first, second, "scene 0 - "+list+" -"), sealed(first, second, "scene 0 - - "+list))
	}
	texts = append(texts, sealed(first, second, "scene 0 0 0 -"))
	texts = append(texts, sealed(append(append([]string{"stem 0 1 1 1 1 1"}, many(second, 5)...), "scene 0 - 0,1,2,3,4 -")...))
	texts = append(texts, sealed(append(append([]string{"stem 0 1 1 1 1 1"}, many(second, 5)...), "scene 0 0,2,4 1,4 -")...))
	for i, text := range texts {
		if y, e := stem.Read(text); e != api.ErrArg || !empty(y) {
			t.Errorf("%d: %q %v %v", i, text, y, e)
		}
	}
	// a wrong CHECK comes first
	if y, e := stem.Read(strings.Replace(smallText, "scene 0", "scene 3", 1)); e != api.ErrText || !empty(y) {
		t.Error(y, e)
	}
}

// P5.8: a string that is too long is so, whatever is in it; one that has the most bytes is read.
func TestReadLong(t *testing.T) {
	lines := []string{"stem 0" + strings.Repeat(" 1", 177), "figure right 1 1", "scene 0 - - -"}
	longest := sealed(lines...)
	if y, e := stem.Read(longest); len(longest) != 400 || e != api.ErrArg || !empty(y) {
		t.Error(len(longest), y, e)
	}
	lines[1] = "figure either 1 1"
	for i, text := range []string{sealed(lines...), longest + "\n", strings.Repeat("x", 401), smallText + strings.Repeat("\n", 400), strings.Repeat("x", 1<<16)} {
		if y, e := stem.Read(text); e != api.ErrLong || !empty(y) {
			t.Errorf("%d: %v %v", i, y, e)
		}
	}
}

// P5.8: one digit that was changed is noticed, in the numbers and in CHECK.
func TestReadNoticesDigits(t *testing.T) {
	g := random(62)
	plays := []api.StemPlay{smallPlay(), playA(), playB(), playC(), playD(), greatestPlay(), longestPlay()}
	for range 50 {
		plays = append(plays, randomPlay(g, whole))
	}
	for _, p := range plays {
		text, _ := stem.Print(p)
		for i := range text {
			if text[i] < '0' || text[i] > '9' {
				continue
			}
			for c := byte('0'); c <= '9'; c++ {
				if c == text[i] {
					continue
				}
				if y, e := stem.Read(text[:i] + string(c) + text[i+1:]); e != api.ErrText || !empty(y) {
					t.Fatalf("%q %d %c: %v %v", text, i, c, y, e)
				}
			}
		}
	}
}

// P5.8: a string that is read is the sheet of what was read.
func TestReadIsStrict(t *testing.T) {
	g := random(63)
	const some = "0123456789 -,\n+.acefghilmnrst\r\x00\xff"
	read := 0
	for range 20000 {
		lines := []string{"stem 1 2 1 3", "figure left 5 1", "figure either 3 2", "figure right 9 1", "scene 1 0 1,2 1", "scene 2 - - -", "scene 0 1 0 -"}
		n := g.IntN(len(lines))
		i := g.IntN(len(lines[n]) + 1)
		c := string(some[g.IntN(len(some))])
		rest := lines[n][i:]
		if len(rest) > 0 && g.IntN(2) == 0 {
			rest = rest[1:]
		}
		lines[n] = lines[n][:i] + c + rest
		text := sealed(lines...)
		y, e := stem.Read(text)
		if e != api.OK {
			if e != api.ErrText && e != api.ErrArg || !empty(y) {
				t.Fatalf("%q %v %v", text, y, e)
			}
			continue
		}
		read++
		if again, e := stem.Print(y); e != api.OK || again != text {
			t.Fatalf("%q %q %v", text, again, e)
		}
	}
	if read < 100 {
		t.Error(read)
	}
}
