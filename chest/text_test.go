package chest_test

import (
	"fmt"
	"slices"
	"strings"
	"testing"

	"kelir/api"
	"kelir/chest"
)

// sealed returns the text with these lines, and with the right CHECK.
func sealed(lines ...string) string {
	sum, text := 0, ""
	for n, line := range lines {
		for place, c := range []byte(line) {
			sum += int(c) * (place + 1) * (n + 1)
		}
		text += line + "\n"
	}
	return text + fmt.Sprintf("end %03d\n", sum%211)
}

func empty(c api.ChestList) bool { return sameList(c, api.ChestList{}) }

const smallText = "chest 9 2\nfigure 4 3 0\nend 182\n"

// P8.9: the chapter's example, and lists with more of everything, also such that cannot be packed.
func TestPrint(t *testing.T) {
	linesC := []string{"chest 10 3", "figure 4 3 0", "figure 3 2 0", "figure 5 2 1", "figure 2 3 1", "figure 6 1 2"}
	for i, x := range []struct {
		c    api.ChestList
		want string
	}{
		{smallList(), smallText}, {smallList(), sealed("chest 9 2", "figure 4 3 0")}, {emptyList(), sealed("chest 1 1")}, {list(20, 5), sealed("chest 20 5")}, {listC(), sealed(linesC...)}, {listD(), sealed(append(slices.Clone(linesC), "figure 6 2 1")...)}, {longestList(), sealed(append([]string{"chest 20 5"}, slices.Repeat([]string{"figure 9 5 5"}, 6)...)...)}, {list(19, 4, 7, 5, 3), sealed("chest 19 4", "figure 7 5 3")},
	} {
		if y, e := chest.Print(x.c); e != api.OK || y != x.want {
			t.Errorf("%d: %q %v", i, y, e)
		}
	}
}

// P8.9, P0.11: what was written is read as what was written.
func TestReadWhatWasPrinted(t *testing.T) {
	g := random(31)
	lists := []api.ChestList{smallList(), listC(), listD(), emptyList(), list(20, 5), greatestList(), longestList()}
	for range 2000 {
		lists = append(lists, anyList(g, 6))
	}
	zeros := met{}
	for _, c := range lists {
		text, e := chest.Print(c)
		if e != api.OK || len(text) > api.ChestText {
			t.Fatal(c, text, e)
		}
		if y, e := chest.Read(text); e != api.OK || !sameList(y, c) {
			t.Fatalf("%q %v %v", text, y, e)
		}
		check := text[len(text)-4:]
		zeros.note(len(check) - len(strings.TrimLeft(check, "0")))
	}
	zeros.atLeast(t, 3, "0", "1", "2")
}

// badDigits are no numbers of a text.
func badDigits() []string {
	return []string{"", "00", "01", "09", "000", "001", "010", "100", "999", "-1", "-0", "+1", "x", "1x", "x1", "/", ":", "1/", "1:", "/1", ";1", ".1", "1.", "é", "\xff", "\x00", "²", "\u0660", "1\u0661", "0x1", "1_0", "4294967297", "18446744073709551617"}
}

func badChests() []string {
	return []string{"Chest 9 2", "chests 9 2", "ches 9 2", "9 2", " chest 9 2", "chest 9 2 ", "chest", "chest ", "chest 9", "chest 9 ", "chest 9 2 1", "chest 9 2 1 1", "chest  9 2", "chest 9  2", "chest\t9 2", "chest 9\t2", "chest 9 2\r", "chest 9,2", "chest 9 2 figure 4 3 0", "figure 9 2", "figure 9 2 0", "box 9 2", "end 9 2", "0 9 2", "chest chest 9 2", "chest nine 2"}
}

func badFigureLines() []string {
	return []string{"Figure 4 3 0", "figures 4 3 0", "figur 4 3 0", "figrue 4 3 0", "4 3 0", " figure 4 3 0", "figure 4 3 0 ", "figure", "figure ", "figure 4", "figure 4 3", "figure 4 3 ", "figure 4 3 0 1", "figure 4 3 0 4 3 0", "figure  4 3 0", "figure 4  3 0", "figure 4 3  0", "figure\t4 3 0", "figure 4 3\t0", "figure 4 3 0\r", "figure 4,3,0", "chest 4 3 0", "chest 9 2", "end 182", "end 4 3 0", "1 4 3 0", "figure figure 4 3 0", "figure 4 3 none", "", " ", "-"}
}

// P8.9: strings that have not the form, with the right CHECK where there is one.
func TestReadForms(t *testing.T) {
	const first, second = "chest 9 2", "figure 4 3 0"
	texts := []string{
		"", "\n", "\n\n", "end 000\n", first, first + "\n", second + "\n", first + "\n" + second, first + "\n" + second + "\n", sealed(), sealed(""), sealed("", ""), sealed(second), sealed("end 000"), sealed(second, first), sealed(second, second), sealed(first, first), sealed(first, first, second), sealed(first, second, first), sealed(first, second, first, second),
		smallText[1:], smallText + "\n", "\n" + smallText, strings.TrimSuffix(smallText, "\n"), smallText + smallText, smallText + "end 182\n", smallText + "end 182", smallText + " ", sealed("", first, second), sealed(first, "", second), sealed(first, second, ""), sealed(first, second, "end 182"), sealed(first, "end 000", second),
		strings.ReplaceAll(smallText, "\n", "\r\n"), strings.ReplaceAll(smallText, "\n", " "), strings.ReplaceAll(smallText, "\n", "\n\n"), strings.Repeat("x", 150), strings.Repeat("\n", 150), strings.Repeat(" ", 150), smallText + strings.Repeat("\n", 119),
	}
	for _, end := range []string{"end 183", "end 181", "end 82", "end 182182", "end 0182", "end 1820", "end 281", "end", "end ", "End 182", "end  182", "end 182 ", " end 182", "182", "end -82", "end +82", "end 18E", "end 182 182", "end 000", "end 393", "end\t182", "end 1 8 2", "ende 182", "en 182", "chest 182", "figure 182", "end 182\r", "end 18\u0662"} {
		texts = append(texts, strings.Replace(smallText, "end 182", end, 1))
	}
	for _, number := range badDigits() {
		texts = append(texts, sealed("chest "+number+" 2", second), sealed("chest 9 "+number, second), sealed(first, "figure "+number+" 3 0"), sealed(first, "figure 4 "+number+" 0"), sealed(first, "figure 4 3 "+number), sealed("chest "+number+" 2"), sealed(first, second, "figure 4 3 "+number))
	}
	for _, line := range badChests() {
		texts = append(texts, sealed(line, second), sealed(line))
	}
	for _, line := range badFigureLines() {
		texts = append(texts, sealed(first, line), sealed(first, second, line), sealed(first, line, second))
	}
	for i, text := range texts {
		if y, e := chest.Read(text); e != api.ErrText || !empty(y) {
			t.Errorf("%d: %q %v %v", i, text, y, e)
		}
	}
}

// P8.9: CHECK has three digits, neither more nor fewer.
func TestReadZeros(t *testing.T) {
	g := random(34)
	seen := met{}
	for range 300 {
		c := anyList(g, 6)
		text, _ := chest.Print(c)
		if !strings.Contains(text, "end 0") {
			continue
		}
		seen.note("two zeros: ", strings.Contains(text, "end 00"))
		if y, e := chest.Read(text); e != api.OK || !sameList(y, c) {
			t.Fatalf("%q %v %v", text, y, e)
		}
		for _, end := range []string{"end ", "end 00", "end  "} {
			if y, e := chest.Read(strings.Replace(text, "end 0", end, 1)); e != api.ErrText || !empty(y) {
				t.Errorf("%q %v %v", text, y, e)
			}
		}
	}
	seen.atLeast(t, 5, "two zeros: true", "two zeros: false")
}

// P8.9: these have the form, and the right CHECK, and are no lists: a text has any numbers, and any number of figures.
func TestReadListsThatAreNone(t *testing.T) {
	const first, second = "chest 9 2", "figure 4 3 0"
	many := func(figures int) string {
		return sealed(append([]string{first}, slices.Repeat([]string{second}, figures)...)...)
	}
	texts := []string{many(7), many(8), many(10), strings.Replace(strings.Replace(smallText, "4 3 0", "0 3 0", 1), "182", "118", 1), strings.Replace(strings.Replace(smallText, "4 3 0", "4 3 9", 1), "182", "187", 1)}
	for _, numbers := range []string{"0 2", "21 2", "99 2", "9 0", "9 6", "9 10", "9 99", "0 0", "99 99"} {
		texts = append(texts, sealed("chest "+numbers, second), sealed("chest "+numbers))
	}
	for _, numbers := range []string{"0 3 0", "10 3 0", "99 3 0", "4 0 0", "4 6 0", "4 10 0", "4 99 0", "4 3 6", "4 3 10", "4 3 99", "0 0 0", "99 99 99"} {
		texts = append(texts, sealed(first, "figure "+numbers), sealed(first, second, "figure "+numbers), sealed(first, "figure "+numbers, second))
	}
	for i, text := range texts {
		if y, e := chest.Read(text); e != api.ErrArg || !empty(y) {
			t.Errorf("%d: %q %v %v", i, text, y, e)
		}
	}
	// a wrong CHECK comes first
	if y, e := chest.Read(strings.Replace(smallText, "figure 4", "figure 0", 1)); e != api.ErrText || !empty(y) {
		t.Error(y, e)
	}
	// the same lines with numbers that are as defined, and as many figures as there may be
	for i, text := range []string{many(0), many(6), sealed("chest 20 5", "figure 9 5 5"), sealed("chest 1 1", "figure 1 1 0")} {
		if y, e := chest.Read(text); e != api.OK || empty(y) {
			t.Errorf("%d: %q %v %v", i, text, y, e)
		}
	}
}

// P8.9: a string that is too long is so, whatever is in it; one that has the most bytes is read.
func TestReadLong(t *testing.T) {
	lines := append([]string{"chest 9 2", "figure 1 1 10", "figure 1 1 10"}, slices.Repeat([]string{"figure 1 1 0"}, 8)...)
	longest := sealed(lines...)
	if y, e := chest.Read(longest); len(longest) != 150 || e != api.ErrArg || !empty(y) {
		t.Error(len(longest), y, e)
	}
	lines[3] = "figure 1 10 0"
	for i, text := range []string{sealed(lines...), longest + "\n", strings.Repeat("x", 151), smallText + strings.Repeat("\n", 120), strings.Repeat("x", 1<<16)} {
		if y, e := chest.Read(text); e != api.ErrLong || !empty(y) {
			t.Errorf("%d: %v %v", i, y, e)
		}
	}
}

// P8.9: one digit that was changed is noticed, in the numbers and in CHECK.
func TestReadNoticesDigits(t *testing.T) {
	g := random(32)
	lists := []api.ChestList{smallList(), listC(), listD(), emptyList(), list(20, 5), greatestList(), longestList()}
	for range 200 {
		lists = append(lists, anyList(g, 6))
	}
	for _, c := range lists {
		text, _ := chest.Print(c)
		for i := range text {
			if text[i] < '0' || text[i] > '9' {
				continue
			}
			for d := byte('0'); d <= '9'; d++ {
				if d == text[i] {
					continue
				}
				if y, e := chest.Read(text[:i] + string(d) + text[i+1:]); e != api.ErrText || !empty(y) {
					t.Fatalf("%q %d %c: %v %v", text, i, d, y, e)
				}
			}
		}
	}
}

// P8.9: a string that is read is the text of what was read.
func TestReadIsStrict(t *testing.T) {
	g := random(33)
	const some = "0123456789 -,\n+.cdefghinrstu\r\x00\xff"
	read := 0
	for range 20000 {
		lines := []string{"chest 12 3", "figure 4 3 0", "figure 9 5 5", "figure 1 1 2", "figure 7 2 4"}
		n := g.IntN(len(lines))
		i := g.IntN(len(lines[n]) + 1)
		c := string(some[g.IntN(len(some))])
		rest := lines[n][i:]
		if len(rest) > 0 && g.IntN(2) == 0 {
			rest = rest[1:]
		}
		lines[n] = lines[n][:i] + c + rest
		text := sealed(lines...)
		y, e := chest.Read(text)
		if e != api.OK {
			if e != api.ErrText && e != api.ErrArg || !empty(y) {
				t.Fatalf("%q %v %v", text, y, e)
			}
			continue
		}
		read++
		if again, e := chest.Print(y); e != api.OK || again != text {
			t.Fatalf("%q %q %v", text, again, e)
		}
	}
	if read < 100 {
		t.Error(read)
	}
}
