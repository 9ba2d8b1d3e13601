package outline_test

import (
	"fmt"
	"slices"
	"strings"
	"testing"

	"kelir/api"
	"kelir/outline"
)

// sealed returns the text with these lines, and with the right CHECK.
func sealed(lines ...string) string {
	sum, text := 0, ""
	for n, line := range lines {
		for place, c := range []byte(line) {
			sum += int(c) * (place + 1) * (n + 1)
		}
		text += line + "\n"
	}
	return text + fmt.Sprintf("end %03d\n", sum%173)
}

func same(a, b api.OutlineBook) bool {
	return a.Stage == b.Stage && slices.EqualFunc(a.Figures, b.Figures, func(x, y api.OutlineFigure) bool { return slices.Equal(x.Rows, y.Rows) })
}

func empty(b api.OutlineBook) bool { return same(b, api.OutlineBook{}) }

func smallBook() api.OutlineBook {
	return api.OutlineBook{Stage: api.OutlineStage{Wide: 1, High: 1, Far: 2}, Figures: company(fig("#"))}
}

func greatBook() api.OutlineBook {
	return api.OutlineBook{
		Stage:   api.OutlineStage{Wide: 16, High: 16, Far: 40, Flame: 3, X: 16, Y: 16},
		Figures: slices.Repeat(company(fig(slices.Repeat([]string{"######"}, 6)...)), 6),
	}
}

func TestPrint(t *testing.T) {
	for i, x := range []struct {
		b    api.OutlineBook
		want string
	}{
		{smallBook(), "stage 1 1 2 0 0 0\nfigure #\nend 070\n"},
		{api.OutlineBook{Stage: stageT(), Figures: company(figureF(), figureH())}, sealed("stage 8 8 8 1 4 4", "figure ## ##", "figure ## #.")},
		{greatBook(), sealed(append([]string{"stage 16 16 40 3 16 16"}, slices.Repeat([]string{"figure ###### ###### ###### ###### ###### ######"}, 6)...)...)},
	} {
		if y, e := outline.Print(x.b); e != api.OK || y != x.want {
			t.Errorf("%d: %q %v", i, y, e)
		}
	}
	for i, s := range badStages() {
		if y, e := outline.Print(api.OutlineBook{Stage: s, Figures: company(figureF())}); e != api.ErrArg || y != "" {
			t.Error(i, y, e)
		}
	}
	for i, list := range badCompanies() {
		if y, e := outline.Print(api.OutlineBook{Stage: stageS(), Figures: list}); e != api.ErrArg || y != "" {
			t.Error(i, y, e)
		}
	}
	for i, f := range badFigures() {
		if y, e := outline.Print(api.OutlineBook{Stage: stageS(), Figures: company(figureF(), f)}); e != api.ErrArg || y != "" {
			t.Error(i, y, e)
		}
	}
}

func TestReadWhatWasPrinted(t *testing.T) {
	g := random(51)
	books := []api.OutlineBook{smallBook(), greatBook()}
	for range 200 {
		b := api.OutlineBook{Stage: randomStage(g, 16)}
		for range 1 + g.IntN(6) {
			b.Figures = append(b.Figures, randomFigure(g, 6))
		}
		books = append(books, b)
	}
	for _, b := range books {
		text, e := outline.Print(b)
		if e != api.OK {
			t.Fatal(b, e)
		}
		if y, e := outline.Read(text); e != api.OK || !same(y, b) {
			t.Fatalf("%q %v %v", text, y, e)
		}
	}
}

func TestReadForms(t *testing.T) {
	const stage, figure = "stage 1 1 2 0 0 0", "figure #"
	for i, text := range []string{
		"", "\n", "end 000\n", "stage", stage + "\n", sealed(figure), sealed(stage)[1:], sealed(),
		sealed(stage, figure) + "\n", "\n" + sealed(stage, figure), strings.TrimSuffix(sealed(stage, figure), "\n"),
		sealed(stage, figure) + sealed(stage, figure), sealed(stage, "", figure), sealed("", stage, figure),
		sealed(figure, stage), sealed(stage, stage, figure), sealed(stage, figure, "end 070"), sealed(stage, figure, ""),
		sealed("Stage 1 1 2 0 0 0", figure), sealed("cloth 1 1 2 0 0 0", figure), sealed("stag 1 1 2 0 0 0", figure), sealed("stage\t1 1 2 0 0 0", figure),
		sealed("stage 1 1 2 0 0", figure), sealed("stage 1 1 2 0 0 0 0", figure), sealed("stage", figure), sealed("stage ", figure),
		sealed("stage  1 1 2 0 0 0", figure), sealed("stage 1 1  2 0 0 0", figure), sealed("stage 1 1 2 0 0 0 ", figure), sealed(" "+stage, figure),
		sealed("stage 01 1 2 0 0 0", figure), sealed("stage 1 1 2 00 0 0", figure), sealed("stage 1 1 002 0 0 0", figure), sealed("stage 100 1 2 0 0 0", figure),
		sealed("stage +1 1 2 0 0 0", figure), sealed("stage 1 1 2 -0 0 0", figure), sealed("stage 1 1 2 -1 0 0", figure), sealed("stage 1 1 2 x 0 0", figure),
		sealed("stage 1 1 2 0 0 #", figure), sealed("stage 1 1 2 0 0 \xff", figure), sealed("stage 1 1 2 0 0 /", figure), sealed("stage 1 1 2 0 0 :", figure), sealed("stage 1 1 2 0 0 é", figure),
		sealed("stage 1 1 2 0 0 0\r", figure),
		sealed(stage, "figure"), sealed(stage, "figure "), sealed(stage, "figure # "), sealed(stage, "figure  #"), sealed(stage, "figure #  #"),
		sealed(stage, "figur #"), sealed(stage, "figure# #"), sealed(stage, "shape #"), sealed(stage, " figure #"), sealed(stage, "#"),
		strings.Replace(sealed(stage, figure), "end 070", "end 70", 1), strings.Replace(sealed(stage, figure), "end 070", "end 0070", 1),
		strings.Replace(sealed(stage, figure), "end 070", "end 243", 1), strings.Replace(sealed(stage, figure), "end 070", "end 070 ", 1),
		strings.Replace(sealed(stage, figure), "end 070", "end  070", 1), strings.Replace(sealed(stage, figure), "end 070", "End 070", 1),
		strings.Replace(sealed(stage, figure), "end 070", "end", 1), strings.Replace(sealed(stage, figure), "end 070", "070", 1),
		strings.Replace(sealed(stage, figure), "\n", "\r\n", -1), strings.Repeat("x", 400), strings.Repeat("\n", 400), strings.Repeat(" ", 400),
	} {
		if y, e := outline.Read(text); e != api.ErrText || !empty(y) {
			t.Errorf("%d: %q %v %v", i, text, y, e)
		}
	}
}

// These have the form, and the right CHECK, and are no books.
func TestReadBooksThatAreNone(t *testing.T) {
	const stage, figure = "stage 1 1 2 0 0 0", "figure #"
	for i, text := range []string{
		sealed(stage), sealed("stage 0 1 2 0 0 0", figure), sealed("stage 99 1 2 0 0 0", figure), sealed("stage 1 17 2 0 0 0", figure),
		sealed("stage 1 1 1 0 0 0", figure), sealed("stage 1 1 41 0 0 0", figure), sealed("stage 1 1 2 4 0 0", figure),
		sealed("stage 1 1 2 0 2 0", figure), sealed("stage 1 1 2 0 0 2", figure),
		sealed(stage, "figure ."), sealed(stage, "figure ## #"), sealed(stage, "figure #######"), sealed(stage, "figure # # # # # # #"),
		sealed(stage, figure, "figure x"), sealed(stage, "figure #\r"), sealed(stage, "figure \xff"), sealed(stage, "figure #\t#"), sealed(stage, "figure figure"), sealed(stage, "figure é"),
		sealed(append([]string{stage}, slices.Repeat([]string{figure}, 7)...)...),
		sealed(stage, "figure "+strings.Repeat("#", 366)),
	} {
		if y, e := outline.Read(text); e != api.ErrArg || !empty(y) {
			t.Errorf("%d: %q %v %v", i, text, y, e)
		}
	}
}

func TestReadLong(t *testing.T) {
	const stage = "stage 1 1 2 0 0 0"
	longest := sealed(stage, "figure "+strings.Repeat("#", 366))
	if len(longest) != api.OutlineText {
		t.Fatal(len(longest))
	}
	if y, e := outline.Read(longest); e != api.ErrArg || !empty(y) {
		t.Error(y, e)
	}
	for i, text := range []string{
		strings.Repeat("x", 401), longest + "\n", sealed(stage, "figure "+strings.Repeat("#", 367)), sealed(stage, "figure #") + strings.Repeat("\n", 400),
	} {
		if y, e := outline.Read(text); e != api.ErrLong || !empty(y) {
			t.Errorf("%d: %v %v", i, y, e)
		}
	}
}

// One digit that was changed is noticed, in the numbers and in CHECK.
func TestReadNoticesDigits(t *testing.T) {
	g := random(52)
	books := []api.OutlineBook{smallBook(), greatBook()}
	for range 50 {
		books = append(books, api.OutlineBook{Stage: randomStage(g, 16), Figures: randomCompany(g)})
	}
	for _, b := range books {
		text, _ := outline.Print(b)
		for i := range text {
			if text[i] < '0' || text[i] > '9' {
				continue
			}
			for c := byte('0'); c <= '9'; c++ {
				if c == text[i] {
					continue
				}
				if y, e := outline.Read(text[:i] + string(c) + text[i+1:]); e != api.ErrText || !empty(y) {
					t.Fatalf("%q %d %c: %v %v", text, i, c, y, e)
				}
			}
		}
	}
}

// A string that is read is the text of what was read.
func TestReadIsStrict(t *testing.T) {
	g := random(53)
	const some = "0123456789 .#\nadefgirstux+-\r"
	read := 0
	for range 20000 {
		lines := []string{"stage 8 8 8 1 4 4", "figure ## #.", "figure #"}
		n := g.IntN(len(lines))
		i := g.IntN(len(lines[n]) + 1)
		c := string(some[g.IntN(len(some))])
		rest := lines[n][i:]
		if len(rest) > 0 && g.IntN(2) == 0 {
			rest = rest[1:]
		}
		lines[n] = lines[n][:i] + c + rest
		text := sealed(lines...)
		y, e := outline.Read(text)
		if e != api.OK {
			if e != api.ErrText && e != api.ErrArg || !empty(y) {
				t.Fatalf("%q %v %v", text, y, e)
			}
			continue
		}
		read++
		if again, e := outline.Print(y); e != api.OK || again != text {
			t.Fatalf("%q %q %v", text, again, e)
		}
	}
	if read == 0 {
		t.Error("none was read")
	}
}
