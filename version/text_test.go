package version_test

import (
	"fmt"
	"slices"
	"strings"
	"testing"

	"kelir/api"
	"kelir/version"
)

// sealed returns the written text with these lines, and with the right CHECK.
func sealed(lines ...string) string {
	sum, text := 0, ""
	for n, line := range lines {
		for place, c := range []byte(line) {
			sum += int(c) * (place + 1) * (n + 1)
		}
		text += line + "\n"
	}
	return text + fmt.Sprintf("end %03d\n", sum%197)
}

func empty(b api.VersionBook) bool { return sameBook(b, api.VersionBook{}) }

const smallText = "book 2\ncopy\nline 1 0\nlost\nend 143\n"

// P6.9: the chapter's example, and books with more of everything.
func TestPrint(t *testing.T) {
	longest := []string{"book 3"}
	for range 5 {
		longest = append(longest, "copy", "line 2 2 2 2", "line 2 2 2 2", "line 2 2 2 2", "line 2 2 2 2")
	}
	for i, x := range []struct {
		b    api.VersionBook
		want string
	}{
		{smallBook(), smallText}, {smallBook(), sealed("book 2", "copy", "line 1 0", "lost")}, {bookB(), sealed("book 3", "copy", "line 0 1 2", "line 1 1", "copy", "line 0 2", "lost", "copy", "line 0 1 1 2", "line 1 2", "copy", "line 0 1 2", "line 1")}, {longestBook(), sealed(longest...)},
		{single(1, written()), sealed("book 1", "copy", "line")}, {single(1, written(l()...), api.VersionLine{Lost: true, Words: l()}), sealed("book 1", "copy", "line", "copy", "lost")}, {single(2, lost(), written(1)), sealed("book 2", "copy", "lost", "copy", "line 1")},
	} {
		if y, e := version.Print(x.b); e != api.OK || y != x.want {
			t.Errorf("%d: %q %v", i, y, e)
		}
	}
	if y, e := version.Print(longestBook()); e != api.OK || len(y) != 300 {
		t.Error(len(y), e)
	}
}

// P6.9, P0.11: what was written is read as what was written.
func TestReadWhatWasPrinted(t *testing.T) {
	g := random(41)
	books := []api.VersionBook{smallBook(), bookB(), longestBook(), lostBook(), threeBook(), single(1, written()), evenBook(1, 5, 4, written()), evenBook(2, 1, 4, written(0, 0, 0, 0))}
	for range 1000 {
		books = append(books, anyBook(g))
	}
	zeros := met{}
	for _, b := range books {
		text, e := version.Print(b)
		if e != api.OK || len(text) > api.VersionText {
			t.Fatal(b, text, e)
		}
		if y, e := version.Read(text); e != api.OK || !sameBook(y, b) {
			t.Fatalf("%q %v %v", text, y, e)
		}
		check := text[len(text)-4:]
		zeros.note(len(check) - len(strings.TrimLeft(check, "0")))
	}
	zeros.atLeast(t, 3, "0", "1", "2")
}

// P6.9: strings that have not the form, with the right CHECK where there is one.
func TestReadForms(t *testing.T) {
	const first, second, third, fourth = "book 2", "copy", "line 1 0", "lost"
	texts := []string{
		"", "\n", "end 000\n", first, first + "\n", sealed(), sealed(""), sealed(second), sealed(third), sealed(second, third), sealed("end 000"),
		// lines that are not in order
		sealed(first, third), sealed(first, fourth), sealed(first, third, second), sealed(first, fourth, second, third), sealed(first, first), sealed(first, first, second, third), sealed(first, second, first, third), sealed(first, second, third, first), sealed(second, first, third), sealed(second, third, first), sealed(third, second, first),
		smallText[1:], smallText + "\n", "\n" + smallText, strings.TrimSuffix(smallText, "\n"), smallText + smallText, sealed("", first, second, third), sealed(first, "", second, third), sealed(first, second, "", third), sealed(first, second, third, ""), smallText + "end 143\n",
		sealed(first, second, third, "end 143"), sealed(first, second, "end 000", third), strings.TrimSuffix(smallText, "end 143\n"),
		strings.ReplaceAll(smallText, "\n", "\r\n"), strings.Repeat("x", 400), strings.Repeat("\n", 400), strings.Repeat(" ", 400), smallText + strings.Repeat("\n", 360),
	}
	for _, end := range []string{"end 144", "end 142", "end 43", "end 0143", "end 340", "end", "end ", "End 143", "end  143", "end 143 ", " end 143", "143", "end -43", "end +43", "end 14E", "end 143 143", "end 000", "end 134", "end\t143", "end 1 4 3", "ende 143", "lost 143"} {
		texts = append(texts, strings.Replace(smallText, "end 143", end, 1))
	}
	for _, number := range badDigits() {
		texts = append(texts, sealed("book "+number, second, third), sealed(first, second, "line "+number), sealed(first, second, "line 1 "+number), sealed(first, second, "line "+number+" 0", fourth))
	}
	for _, line := range []string{"Book 2", "books 2", "boo 2", "2", " book 2", "book", "book ", "book 2 ", "book  2", "book 2 2", "book 2 2 ", "book\t2", "book 2\r", "line 2", "copy 2", "lost 2", "word 2", "book two"} {
		texts = append(texts, sealed(line, second, third))
	}
	for _, line := range []string{"Copy", "copies", "cop", " copy", "copy ", "copy 0", "copy copy", "copy\r", "copy\t", "copy x", "page"} {
		texts = append(texts, sealed(first, line, third), sealed(first, second, third, line, fourth), sealed(first, second, third, line))
	}
	for _, line := range []string{"Line 1 0", "lines 1 0", "lin 1 0", "1 0", " line 1 0", "line ", "line 1 ", "line 1 0 ", "line  1 0", "line 1  0", "line\t1 0", "line 1\t0", "line 1,0", "line 1 0\r", "line 1 0\x00", "Lost", "losts", "los", " lost", "lost ", "lost 0", "lost 1 0", "lost lost", "lost\r", "last", "line lost", "book", "end", "word 1", "-"} {
		texts = append(texts, sealed(first, second, line), sealed(first, second, line, fourth), sealed(first, second, third, line))
	}
	for i, text := range texts {
		if y, e := version.Read(text); e != api.ErrText || !empty(y) {
			t.Errorf("%d: %q %v %v", i, text, y, e)
		}
	}
}

// badDigits are no numbers of a written text.
func badDigits() []string {
	return []string{"", "00", "01", "000", "001", "010", "100", "999", "-1", "-0", "+1", "x", "1x", "x1", "/", ":", "1/", "1:", ";1", ".1", "1.", "é", "\xff", "\x00", "²", "\u0660", "1\u0661", "0x1", "1_0", "4294967297", "18446744073709551617"}
}

// P6.9: these have the form, and the right CHECK, and are no books: a written text has any numbers, and any number of copies, of lines and of words.
func TestReadBooksThatAreNone(t *testing.T) {
	const first, second, third, fourth = "book 2", "copy", "line 1 0", "lost"
	many := func(line string, times int) []string { return slices.Repeat([]string{line}, times) }
	texts := []string{
		sealed(first), sealed("book 0"), sealed(first, second), sealed(first, second, second), sealed(first, second, second, third), sealed(first, second, third, second), sealed(first, second, third, fourth, second, third), sealed(first, second, third, second, third, third), sealed(append([]string{first, second}, many(third, 5)...)...), sealed(append([]string{first, second}, many(fourth, 5)...)...), sealed(append([]string{first, second}, many(fourth, 20)...)...), sealed(append([]string{first}, many(second, 30)...)...),
		sealed(append([]string{first}, slices.Repeat([]string{second, third}, 6)...)...), sealed("book 0", second, fourth), sealed("book 4", second, fourth), sealed("book 10", second, fourth), sealed("book 99", second, third), sealed("book 1", second, third), sealed(first, second, "line 2"), sealed(first, second, "line 0 9"), sealed("book 3", second, "line 10"), sealed("book 3", second, "line 0 99"), sealed("book 3", second, third, "line 3"), sealed(first, second, "line 0 0 0 0 0"), sealed(first, second, third, second, "line 1 1 1 1 1 1 1 1 1 1 1 1 1 1"),
		strings.Replace(strings.Replace(smallText, "1 0", "2 0", 1), "143", "161", 1), strings.Replace(strings.Replace(smallText, "book 2", "book 0", 1), "143", "131", 1),
	}
	for i, text := range texts {
		if y, e := version.Read(text); e != api.ErrArg || !empty(y) {
			t.Errorf("%d: %q %v %v", i, text, y, e)
		}
	}
	// a wrong CHECK comes first
	if y, e := version.Read(strings.Replace(smallText, "1 0", "2 0", 1)); e != api.ErrText || !empty(y) {
		t.Error(y, e)
	}
}

// P6.9: a string that is too long is so, whatever is in it; one that has the most bytes is read.
func TestReadLong(t *testing.T) {
	longest := sealed("book 10", "copy", "line"+strings.Repeat(" 0", 187))
	if y, e := version.Read(longest); len(longest) != 400 || e != api.ErrArg || !empty(y) {
		t.Error(len(longest), y, e)
	}
	for i, text := range []string{sealed("book 10", "copy", "line 10"+strings.Repeat(" 0", 186)), longest + "\n", strings.Repeat("x", 401), smallText + strings.Repeat("\n", 400), strings.Repeat("x", 1<<16)} {
		if y, e := version.Read(text); e != api.ErrLong || !empty(y) {
			t.Errorf("%d: %v %v", i, y, e)
		}
	}
}

// P6.9: one digit that was changed is noticed, in the numbers and in CHECK.
func TestReadNoticesDigits(t *testing.T) {
	g := random(42)
	books := []api.VersionBook{smallBook(), bookB(), longestBook(), lostBook()}
	for range 100 {
		books = append(books, anyBook(g))
	}
	for _, b := range books {
		text, _ := version.Print(b)
		for i := range text {
			if text[i] < '0' || text[i] > '9' {
				continue
			}
			for c := byte('0'); c <= '9'; c++ {
				if c == text[i] {
					continue
				}
				if y, e := version.Read(text[:i] + string(c) + text[i+1:]); e != api.ErrText || !empty(y) {
					t.Fatalf("%q %d %c: %v %v", text, i, c, y, e)
				}
			}
		}
	}
}

// P6.9: a string that is read is the written text of what was read.
func TestReadIsStrict(t *testing.T) {
	g := random(43)
	const some = "0123456789 -,\n+.bcdeiklnopsty\r\x00\xff"
	read := 0
	for range 20000 {
		lines := []string{"book 3", "copy", "line 0 1 2", "line", "lost", "copy", "lost", "line 2 2 2 2", "line 1"}
		n := g.IntN(len(lines))
		i := g.IntN(len(lines[n]) + 1)
		c := string(some[g.IntN(len(some))])
		rest := lines[n][i:]
		if len(rest) > 0 && g.IntN(2) == 0 {
			rest = rest[1:]
		}
		lines[n] = lines[n][:i] + c + rest
		text := sealed(lines...)
		y, e := version.Read(text)
		if e != api.OK {
			if e != api.ErrText && e != api.ErrArg || !empty(y) {
				t.Fatalf("%q %v %v", text, y, e)
			}
			continue
		}
		read++
		if again, e := version.Print(y); e != api.OK || again != text {
			t.Fatalf("%q %q %v", text, again, e)
		}
	}
	if read < 100 {
		t.Error(read)
	}
}
