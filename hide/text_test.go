package hide_test

import (
	"fmt"
	"slices"
	"strings"
	"testing"

	"kelir/api"
	"kelir/hide"
)

// sealed returns the text with these lines, and with the right CHECK.
func sealed(lines ...string) string {
	sum, text := 0, ""
	for n, line := range lines {
		for place, c := range []byte(line) {
			sum += int(c) * (place + 1) * (n + 1)
		}
		text += line + "\n"
	}
	return text + fmt.Sprintf("end %03d\n", sum%199)
}

func empty(r api.HideRegister) bool { return sameRegister(r, api.HideRegister{}) }

const smallText = "register 1 0 1000 1000 1000 1000\nmeasures along\nhide 1\nend 106\n"

// P7.8: the chapter's example, and registers with more of everything.
func TestPrint(t *testing.T) {
	for i, x := range []struct {
		r    api.HideRegister
		want string
	}{
		{smallRegister(), smallText}, {smallRegister(), sealed("register 1 0 1000 1000 1000 1000", "measures along", "hide 1")},
		{registerR(), sealed("register 1 1 980 1020 980 1020", "measures along along across", "hide 100 200 100", "hide 100 210 100", "hide 110 220 100")}, {registerS(), sealed("register 1 0 980 1020 980 1020", "measures along along across", "hide 100 200 100", "hide 100 210 100", "hide 110 220 100")},
		{greatestRegister(), sealed(append([]string{"register 5 2 1260 1300 1260 1300", "measures across across across across across across"}, slices.Repeat([]string{"hide 500 500 500 500 500 500"}, 6)...)...)},
		{with(smallRegister(), func(r *api.HideRegister) { r.Along, r.Across = sp(700, 730), sp(1290, 1299) }), sealed("register 1 0 700 730 1290 1299", "measures along", "hide 1")},
	} {
		if y, e := hide.Print(x.r); e != api.OK || y != x.want {
			t.Errorf("%d: %q %v", i, y, e)
		}
	}
}

// P7.8, P0.11: what was written is read as what was written.
func TestReadWhatWasPrinted(t *testing.T) {
	g := random(41)
	registers := []api.HideRegister{smallRegister(), registerR(), registerS(), greatestRegister(), mixedRegister(), stiff(5, across, 500, 1, 10, 99, 100, 499)}
	for range 1000 {
		registers = append(registers, randomRegister(g, sizes{6, 6, 500, 500, 40}))
	}
	zeros := met{}
	for _, r := range registers {
		text, e := hide.Print(r)
		if e != api.OK || len(text) > api.HideText {
			t.Fatal(r, text, e)
		}
		if y, e := hide.Read(text); e != api.OK || !sameRegister(y, r) {
			t.Fatalf("%q %v %v", text, y, e)
		}
		check := text[len(text)-4:]
		zeros.note(len(check) - len(strings.TrimLeft(check, "0")))
	}
	zeros.atLeast(t, 3, "0", "1", "2")
}

// P7.8: strings that have not the form, with the right CHECK where there is one.
func TestReadForms(t *testing.T) {
	const first, second, third, fourth = "register 1 0 1000 1000 1000 1000", "measures along", "hide 1", "hide 2"
	texts := []string{
		"", "\n", "end 000\n", first, first + "\n", sealed(), sealed(""), sealed("", ""), sealed(first), sealed(second), sealed(third), sealed("end 000"),
		// lines that are not in order
		sealed(second, first), sealed(first, third), sealed(first, third, second), sealed(second, first, third), sealed(second, third), sealed(third, first, second), sealed(first, first), sealed(first, first, second), sealed(first, first, second, third), sealed(first, second, second), sealed(first, second, second, third), sealed(first, second, third, second), sealed(first, second, third, first), sealed(first, second, first, third), sealed(first, second, third, second, fourth), sealed(second, second, third), sealed(third, third, third),
		smallText[1:], smallText + "\n", "\n" + smallText, strings.TrimSuffix(smallText, "\n"), smallText + smallText, sealed("", first, second, third), sealed(first, "", second, third), sealed(first, second, "", third), sealed(first, second, third, ""), smallText + "end 106\n",
		sealed(first, second, third, "end 106"), sealed(first, second, "end 000", third), strings.TrimSuffix(smallText, "end 106\n"),
		strings.ReplaceAll(smallText, "\n", "\r\n"), strings.Repeat("x", 300), strings.Repeat("\n", 300), strings.Repeat(" ", 300), smallText + strings.Repeat("\n", 230),
	}
	for _, end := range []string{"end 107", "end 105", "end 16", "end 0106", "end 601", "end", "end ", "End 106", "end  106", "end 106 ", " end 106", "106", "end -06", "end +06", "end 10E", "end 106 106", "end 000", "end 160", "end\t106", "end 1 0 6", "ende 106", "hide 106"} {
		texts = append(texts, strings.Replace(smallText, "end 106", end, 1))
	}
	for _, number := range badDigits() {
		texts = append(texts, sealed(first, second, "hide "+number), sealed(first, second, "hide 1 "+number), sealed(first, second, third, "hide "+number+" 1"))
		for place := range 6 {
			numbers := strings.Fields("1 0 1000 1000 1000 1000")
			numbers[place] = number
			texts = append(texts, sealed("register "+strings.Join(numbers, " "), second, third))
		}
	}
	for _, line := range []string{"Register 1 0 1000 1000 1000 1000", "registers 1 0 1000 1000 1000 1000", "registe 1 0 1000 1000 1000 1000", "1 0 1000 1000 1000 1000", " " + first, first + " ", first + " 1", first + " 1000", "register", "register ", "register 1", "register 1 0 1000 1000", "register 1 0 1000 1000 1000", "register  1 0 1000 1000 1000 1000", "register\t1 0 1000 1000 1000 1000", first + "\r", "register 1,0,1000,1000,1000,1000", "register 1 0 1000-1000 1000-1000", "hide 1 0 1000 1000 1000 1000", "measures 1 0 1000 1000 1000 1000"} {
		texts = append(texts, sealed(line, second, third))
	}
	for _, line := range []string{"Measures along", "measure along", "measuress along", "along", " measures along", "measures ", "measures along ", "measures  along", "measures\talong", "measures along\r", "measures alone", "measures Along", "measures aLong", "measures along across ", "measures along  across", "measures along,across", "measures 1", "measures along 1", "measures 1 along", "measures alon", "measures alongs", "measures acros", "measures acrosss", "measures \x00along", "measures along measures", "hide along", "register along"} {
		texts = append(texts, sealed(first, line, third), sealed(first, line))
	}
	for _, line := range []string{"Hide 1", "hides 1", "hid 1", "1", " hide 1", "hide ", "hide 1 ", "hide  1", "hide\t1", "hide 1\r", "hide 1\x00", "hide 1,2", "hide along", "side 1", "end 1", "end 106", "hide hide 1", "-"} {
		texts = append(texts, sealed(first, second, line), sealed(first, second, line, fourth), sealed(first, second, third, line))
	}
	for i, text := range texts {
		if y, e := hide.Read(text); e != api.ErrText || !empty(y) {
			t.Errorf("%d: %q %v %v", i, text, y, e)
		}
	}
}

// badDigits are no numbers of a text.
func badDigits() []string {
	return []string{"", "00", "01", "000", "001", "010", "0001", "0100", "00000", "01000", "10000", "99999", "-1", "-0", "+1", "x", "1x", "x1", "/", ":", "1/", "1:", ";1", ".1", "1.", "é", "\xff", "\x00", "²", "\u0660", "1\u0661", "0x1", "1_0", "4294967297", "18446744073709551617"}
}

// P7.8: these have the form, and the right CHECK, and are no registers: a text has any numbers, and any number of kinds, of hides and of sizes.
func TestReadRegistersThatAreNone(t *testing.T) {
	const first, second, third, fourth = "register 1 0 1000 1000 1000 1000", "measures along", "hide 1", "hide 2"
	texts := []string{
		sealed(first, "measures"), sealed(first, "measures", "hide"), sealed(first, "measures", "hide", "hide"), sealed(first, "measures", third), sealed(first, second), sealed(first, second, "hide"), sealed(first, second, third, "hide"), sealed(first, second, "hide 1 2"), sealed(first, "measures along across", third), sealed(first, "measures across across along across along along across", "hide 1 1 1 1 1 1 1"), sealed(append([]string{first, second}, slices.Repeat([]string{third}, 7)...)...), sealed(append([]string{first, second}, slices.Repeat([]string{"hide"}, 40)...)...), sealed(first, "measures"+strings.Repeat(" along", 30), third),
		sealed(first, second, "hide 0"), sealed(first, second, "hide 501"), sealed(first, second, "hide 9999"), sealed(first, second, third, "hide 1000"), sealed(first, second, fourth, "hide 0"),
		strings.Replace(strings.Replace(smallText, "hide 1", "hide 0", 1), "106", "088", 1),
	}
	for _, numbers := range []string{"0 0 1000 1000 1000 1000", "6 0 1000 1000 1000 1000", "9999 0 1000 1000 1000 1000", "1 3 1000 1000 1000 1000", "1 10 1000 1000 1000 1000", "1 0 0 1000 1000 1000", "1 0 1000 0 1000 1000", "1 0 1000 1000 0 1000", "1 0 1000 1000 1000 0", "1 0 1001 1000 1000 1000", "1 0 1000 1000 1001 1000", "1 0 960 1001 1000 1000", "1 0 1000 1000 960 1001", "1 0 699 700 1000 1000", "1 0 1000 1000 1300 1301", "0 0 0 0 0 0", "9999 9999 9999 9999 9999 9999"} {
		texts = append(texts, sealed("register "+numbers, second, third))
	}
	for i, text := range texts {
		if y, e := hide.Read(text); e != api.ErrArg || !empty(y) {
			t.Errorf("%d: %q %v %v", i, text, y, e)
		}
	}
	// a wrong CHECK comes first
	if y, e := hide.Read(strings.Replace(smallText, "hide 1", "hide 0", 1)); e != api.ErrText || !empty(y) {
		t.Error(y, e)
	}
}

// P7.8: a string that is too long is so, whatever is in it; one that has the most bytes is read.
func TestReadLong(t *testing.T) {
	const first, second = "register 1 0 1000 1000 1000 1000", "measures along"
	longest := sealed(first, second, "hide 10"+strings.Repeat(" 1", 118))
	if y, e := hide.Read(longest); len(longest) != 300 || e != api.ErrArg || !empty(y) {
		t.Error(len(longest), y, e)
	}
	for i, text := range []string{sealed(first, second, "hide 100"+strings.Repeat(" 1", 118)), longest + "\n", strings.Repeat("x", 301), smallText + strings.Repeat("\n", 300), strings.Repeat("x", 1<<16)} {
		if y, e := hide.Read(text); e != api.ErrLong || !empty(y) {
			t.Errorf("%d: %v %v", i, y, e)
		}
	}
}

// P7.8: one digit that was changed is noticed, in the numbers and in CHECK.
func TestReadNoticesDigits(t *testing.T) {
	g := random(42)
	registers := []api.HideRegister{smallRegister(), registerR(), greatestRegister(), mixedRegister()}
	for range 100 {
		registers = append(registers, randomRegister(g, sizes{6, 6, 500, 500, 40}))
	}
	for _, r := range registers {
		text, _ := hide.Print(r)
		for i := range text {
			if text[i] < '0' || text[i] > '9' {
				continue
			}
			for c := byte('0'); c <= '9'; c++ {
				if c == text[i] {
					continue
				}
				if y, e := hide.Read(text[:i] + string(c) + text[i+1:]); e != api.ErrText || !empty(y) {
					t.Fatalf("%q %d %c: %v %v", text, i, c, y, e)
				}
			}
		}
	}
}

// P7.8: a string that is read is the text of what was read.
func TestReadIsStrict(t *testing.T) {
	g := random(43)
	const some = "0123456789 -,\n+.acdeghilmnorstu\r\x00\xff"
	read := 0
	for range 20000 {
		lines := []string{"register 2 1 987 1001 999 1020", "measures along across", "hide 10 200", "hide 300 4", "hide 5 60"}
		n := g.IntN(len(lines))
		i := g.IntN(len(lines[n]) + 1)
		c := string(some[g.IntN(len(some))])
		rest := lines[n][i:]
		if len(rest) > 0 && g.IntN(2) == 0 {
			rest = rest[1:]
		}
		lines[n] = lines[n][:i] + c + rest
		text := sealed(lines...)
		y, e := hide.Read(text)
		if e != api.OK {
			if e != api.ErrText && e != api.ErrArg || !empty(y) {
				t.Fatalf("%q %v %v", text, y, e)
			}
			continue
		}
		read++
		if again, e := hide.Print(y); e != api.OK || again != text {
			t.Fatalf("%q %q %v", text, again, e)
		}
	}
	if read < 100 {
		t.Error(read)
	}
}
