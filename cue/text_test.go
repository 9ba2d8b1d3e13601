package cue_test

import (
	"fmt"
	"slices"
	"strings"
	"testing"

	"kelir/api"
	"kelir/cue"
)

// sealed returns the text with these lines, and with the right CHECK.
func sealed(lines ...string) string {
	sum, text := 0, ""
	for n, line := range lines {
		for place, c := range []byte(line) {
			sum += int(c) * (place + 1) * (n + 1)
		}
		text += line + "\n"
	}
	return text + fmt.Sprintf("end %03d\n", sum%191)
}

func empty(b api.CueBook) bool { return b.Cues == 0 && b.Tunes == 0 && b.Versions == nil }

const smallText = "book 1 2\nversion\nstate 0 1\nend 013\n"

// P4.10: the chapter's example, and books with more of everything.
func TestPrint(t *testing.T) {
	linesB := []string{"book 2 3", "version", "state 1 0 0 1", "state 0 2 1 1", "version", "state 1 0 0 1", "state 0 2 0 1", "version", "state 0 0 0 1", "version", "state 0 1 1 1", "state 1 0 1 1"}
	version := append([]string{"version"}, slices.Repeat([]string{"state 3 5 3 5 3 5 3 5"}, 4)...)
	for i, x := range []struct {
		b    api.CueBook
		want string
	}{
		{smallBook(), smallText}, {smallBook(), sealed("book 1 2", "version", "state 0 1")}, {bookB(), sealed(linesB...)},
		{greatestBook(), sealed(append([]string{"book 4 6"}, slices.Repeat(version, 4)...)...)},
		{book(1, 1, api.CueVersion{States: [][]api.CueMove{moves(0, 0)}}), sealed("book 1 1", "version", "state 0 0")},
	} {
		if y, e := cue.Print(x.b); e != api.OK || y != x.want {
			t.Errorf("%d: %q %v", i, y, e)
		}
	}
	if y, e := cue.Print(greatestBook()); e != api.OK || len(y) != 401 {
		t.Error(len(y), e)
	}
}

// P4.10, P0.11: what was written is read as what was written.
func TestReadWhatWasPrinted(t *testing.T) {
	g := random(41)
	books := []api.CueBook{smallBook(), bookB(), lostBook(), forkBook(), longBook(), turningBook(), greatestBook()}
	for range 1000 {
		books = append(books, writtenBook(g))
	}
	zeros := met{}
	for _, b := range books {
		text, e := cue.Print(b)
		if e != api.OK || len(text) > api.CueText {
			t.Fatal(b, text, e)
		}
		if y, e := cue.Read(text); e != api.OK || !sameBook(y, b) {
			t.Fatalf("%q %v %v", text, y, e)
		}
		check := text[len(text)-4:]
		zeros.note(len(check) - len(strings.TrimLeft(check, "0")))
	}
	zeros.atLeast(t, 5, "0", "1", "2")
}

// P4.10: strings that have not the form, with the right CHECK where there is one.
func TestReadForms(t *testing.T) {
	const first, second, third = "book 1 2", "version", "state 0 1"
	texts := []string{
		"", "\n", "end 000\n", first, first + "\n", sealed(), sealed(""), sealed(second), sealed(third), sealed(second, third), sealed(first, first, second, third), sealed(first, second, first, third), sealed(first, second, third, first),
		sealed(first, third), sealed(first, third, second), sealed(first, third, second, third), sealed(second, first, third), sealed(second, third, first), sealed(third, first, second),
		smallText[1:], smallText + "\n", "\n" + smallText, strings.TrimSuffix(smallText, "\n"), smallText + smallText, sealed(first, "", second, third), sealed(first, second, "", third), sealed(first, second, third, ""), sealed("", first, second, third),
		sealed(first, second, third, "end 013"), sealed(first, second, "end 000", third), sealed("end 000"), first + "\n" + second + "\n" + third + "\n",
		strings.ReplaceAll(smallText, "\n", "\r\n"), strings.Repeat("x", 450), strings.Repeat("\n", 450), strings.Repeat(" ", 450), smallText + strings.Repeat("\n", 400),
	}
	for _, end := range []string{"end 13", "end 0013", "end 204", "end 013 ", "end  013", " end 013", "end -13", "end +13", "End 013", "end", "013", "end 014", "end 012", "end 000", "end 0l3", "end 013 013", "end\t013", "end 13 ", "end 0 1 3"} {
		texts = append(texts, strings.Replace(smallText, "end 013", end, 1))
	}
	for _, line := range []string{
		"Book 1 2", "books 1 2", "boo 1 2", "state 1 2", "end 1 2", "version 1 2", "book\t1 2", "1 2", " book 1 2", "book", "book ", "book 1", "book 1 2 3", "book 1 2 ", "book  1 2", "book 1  2", "book 1 ", "book  1", "book 1\t2",
		"book 01 2", "book 1 02", "book 00 2", "book 1 00", "book 100 2", "book 1 100", "book 1 002", "book -1 2", "book 1 -2", "book -0 2", "book +1 2", "book 1 +2", "book x 2", "book 1 x", "book / 2", "book 1 :", "book 1 2\r", "book 1 2.", "book 1e 2",
		"book é 2", "book \xff 2", "book 1 \u0662", "book 1 18446744073709551617", "book 1 2\x00",
	} {
		texts = append(texts, sealed(line, second, third))
	}
	for _, line := range []string{"Version", "versions", "versio", "verison", "version ", " version", "version 0", "version 1 2", "version\r", "\tversion", "v", "version state"} {
		texts = append(texts, sealed(first, line, third), sealed(first, second, third, line), sealed(first, second, third, line, third))
	}
	for _, line := range []string{
		"State 0 1", "states 0 1", "stat 0 1", "0 1", " state 0 1", "state  0 1", "state 0  1", "state 0 1 ", "state 0", "state 0 ", "state ", "state  ", "state 0 1 0", "state 0 1 0 1 0", "state 0\t1", "state 0,1",
		"state 00 1", "state 0 01", "state 000 1", "state 100 1", "state 0 100", "state 0 001", "state -1 1", "state 0 -1", "state -0 1", "state +0 1", "state 0 +1", "state x 1", "state 0 x", "state / 1", "state 0 :", "state 0 1\r", "state 0 - 1",
		"state é 1", "state 0 \xff", "state 0 ²", "state 0 4294967297", "state 0 1 0 1x", "tune 0 1",
	} {
		texts = append(texts, sealed(first, second, line), sealed(first, second, third, line), sealed(first, second, line, third))
	}
	for i, text := range texts {
		if y, e := cue.Read(text); e != api.ErrText || !empty(y) {
			t.Errorf("%d: %q %v %v", i, text, y, e)
		}
	}
}

// P4.10: these have the form, and the right CHECK, and are no books: a text has any numbers, and any number of versions, states and pairs.
func TestReadBooksThatAreNone(t *testing.T) {
	const first, second, third = "book 1 2", "version", "state 0 1"
	versions := slices.Repeat([]string{second, third}, 5)
	states := slices.Repeat([]string{third}, 5)
	for i, text := range []string{
		sealed(first), sealed("book 0 0"), sealed("book 99 99"), sealed(first, second), sealed(first, second, second), sealed(first, second, third, second), sealed(first, second, second, third), sealed(append([]string{first}, versions...)...), sealed(append([]string{first, second}, states...)...),
		sealed("book 0 2", second, third), sealed("book 0 2", second, "state"), sealed("book 1 0", second, third), sealed("book 5 2", second, "state 0 1 0 1 0 1 0 1 0 1"), sealed("book 1 7", second, third), sealed("book 1 1", second, third), sealed("book 2 2", second, third), sealed("book 10 2", second, third), sealed("book 1 10", second, third),
		sealed(first, second, "state"), sealed(first, second, "state 0 1 0 1"), sealed(first, second, third, "state"), sealed(first, second, "state 1 1"), sealed(first, second, "state 0 2"), sealed(first, second, "state 99 1"), sealed(first, second, "state 0 99"), sealed(first, second, "state 10 10"), sealed(first, second, third, second, "state 1 0", third, second, "state 1 0"),
	} {
		if y, e := cue.Read(text); e != api.ErrArg || !empty(y) {
			t.Errorf("%d: %q %v %v", i, text, y, e)
		}
	}
	// a wrong CHECK comes first
	if y, e := cue.Read(strings.Replace(sealed(first, second, "state 1 1"), "034", "035", 1)); e != api.ErrText || !empty(y) {
		t.Error(y, e)
	}
}

// P4.10: a string that is too long is so, whatever is in it; one that has the most bytes is read.
func TestReadLong(t *testing.T) {
	lines := []string{"book 1 2", "version"}
	lines = append(lines, slices.Repeat([]string{"state 0 1"}, 37)...)
	lines = append(lines, slices.Repeat([]string{"state 0 10"}, 5)...)
	longest := sealed(lines...)
	if y, e := cue.Read(longest); len(longest) != api.CueText || e != api.ErrArg || !empty(y) {
		t.Error(len(longest), y, e)
	}
	lines[2] = "state 0 10"
	for i, text := range []string{sealed(lines...), longest + "\n", strings.Repeat("x", 451), smallText + strings.Repeat("\n", 450), strings.Repeat("x", 1<<16)} {
		if y, e := cue.Read(text); e != api.ErrLong || !empty(y) {
			t.Errorf("%d: %v %v", i, y, e)
		}
	}
}

// P4.10: one digit that was changed is noticed, in the numbers and in CHECK.
func TestReadNoticesDigits(t *testing.T) {
	g := random(42)
	books := []api.CueBook{smallBook(), bookB(), lostBook(), greatestBook()}
	for range 100 {
		books = append(books, writtenBook(g))
	}
	for _, b := range books {
		text, _ := cue.Print(b)
		for i := range text {
			if text[i] < '0' || text[i] > '9' {
				continue
			}
			for c := byte('0'); c <= '9'; c++ {
				if c == text[i] {
					continue
				}
				if y, e := cue.Read(text[:i] + string(c) + text[i+1:]); e != api.ErrText || !empty(y) {
					t.Fatalf("%q %d %c: %v %v", text, i, c, y, e)
				}
			}
		}
	}
}

// P4.10: a string that is read is the text of what was read.
func TestReadIsStrict(t *testing.T) {
	g := random(43)
	const some = "0123456789 -\n+.abeiknorstv\r\x00\xff"
	read := 0
	for range 20000 {
		lines := []string{"book 2 3", "version", "state 1 0 0 1", "state 0 2 1 1", "version", "state 0 0 0 1"}
		n := g.IntN(len(lines))
		i := g.IntN(len(lines[n]) + 1)
		c := string(some[g.IntN(len(some))])
		rest := lines[n][i:]
		if len(rest) > 0 && g.IntN(2) == 0 {
			rest = rest[1:]
		}
		lines[n] = lines[n][:i] + c + rest
		text := sealed(lines...)
		y, e := cue.Read(text)
		if e != api.OK {
			if e != api.ErrText && e != api.ErrArg || !empty(y) {
				t.Fatalf("%q %v %v", text, y, e)
			}
			continue
		}
		read++
		if again, e := cue.Print(y); e != api.OK || again != text {
			t.Fatalf("%q %q %v", text, again, e)
		}
	}
	if read == 0 {
		t.Error("none was read")
	}
}
