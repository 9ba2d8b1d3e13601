package joint_test

import (
	"fmt"
	"slices"
	"strings"
	"testing"

	"kelir/api"
	"kelir/joint"
)

// sealed returns the sheet with these lines, and with the right CHECK.
func sealed(lines ...string) string {
	sum, text := 0, ""
	for n, line := range lines {
		for place, c := range []byte(line) {
			sum += int(c) * (place + 1) * (n + 1)
		}
		text += line + "\n"
	}
	return text + fmt.Sprintf("end %03d\n", sum%179)
}

func same(a, b api.JointFigure) bool { return a.Stand == b.Stand && slices.Equal(a.Limbs, b.Limbs) }

func empty(f api.JointFigure) bool { return same(f, api.JointFigure{}) }

func smallFigure() api.JointFigure { return fig(2, limb(-1, 3, -1, 1, 0)) }

// P2.9.
func TestPrint(t *testing.T) {
	for i, x := range []struct {
		f    api.JointFigure
		want string
	}{
		{smallFigure(), "figure 2\nlimb -1 3 -1 1 0\nend 051\n"},
		{figureA(), sealed("figure 0", "limb -1 2 -1 1 0", "limb 0 1 0 2 1", "limb -1 3 2 3 1")},
		{greatest(), sealed("figure 7", "limb -1 20 -2 2 2", "limb 0 20 -2 2 2", "limb 1 20 -2 2 2", "limb 2 20 1 4 2", "limb 3 20 -4 -1 2")},
	} {
		if y, e := joint.Print(x.f); e != api.OK || y != x.want {
			t.Errorf("%d: %q %v", i, y, e)
		}
	}
	for i, f := range badFigures() {
		if y, e := joint.Print(f); e != api.ErrArg || y != "" {
			t.Errorf("%d: %q %v", i, y, e)
		}
	}
}

// P2.9, P0.11: what was written is read as what was written.
func TestReadWhatWasPrinted(t *testing.T) {
	g := random(31)
	figures := []api.JointFigure{smallFigure(), figureA(), greatest(), {Stand: 7, Limbs: slices.Repeat([]api.JointLimb{limb(-1, 20, -4, -4, 2)}, 5)}}
	for range 500 {
		figures = append(figures, randomFigure(g, 1, 2000))
	}
	for _, f := range figures {
		text, e := joint.Print(f)
		if e != api.OK || len(text) > api.JointText {
			t.Fatal(f, text, e)
		}
		if y, e := joint.Read(text); e != api.OK || !same(y, f) {
			t.Fatalf("%q %v %v", text, y, e)
		}
	}
}

// P2.9: strings that have not the form, with the right CHECK where there is one.
func TestReadForms(t *testing.T) {
	const stand, one = "figure 2", "limb -1 3 -1 1 0"
	good := sealed(stand, one)
	for i, text := range []string{
		"", "\n", "end 000\n", "figure 2", "figure 2\n", sealed(), sealed(""), sealed(one), sealed(one, stand), sealed(stand, stand, one),
		good[1:], good + "\n", "\n" + good, strings.TrimSuffix(good, "\n"), good + good, sealed(stand, "", one), sealed(stand, one, ""), sealed("", stand, one),
		sealed(stand, one, "end 051"), sealed(stand, "end 051", one), stand + "\n" + one + "\n",
		sealed("Figure 2", one), sealed("figures 2", one), sealed("figur 2", one), sealed("figure\t2", one), sealed("figure", one), sealed("figure ", one),
		sealed("figure  2", one), sealed("figure 2 ", one), sealed(" figure 2", one), sealed("figure 2 2", one), sealed("2", one),
		sealed("figure 02", one), sealed("figure 002", one), sealed("figure 100", one), sealed("figure -100", one), sealed("figure -0", one), sealed("figure -02", one), sealed("figure 00", one),
		sealed("figure +2", one), sealed("figure --2", one), sealed("figure -", one), sealed("figure 2-", one), sealed("figure 1-1", one), sealed("figure x", one), sealed("figure /", one), sealed("figure :", one),
		sealed("figure é", one), sealed("figure \xff", one), sealed("figure ٢", one), sealed("figure 2\r", one), sealed("figure 2.", one), sealed("figure 1e", one), sealed("figure 18446744073709551618", one),
		sealed(stand, "limb"), sealed(stand, "limb "), sealed(stand, "limb -1 3 -1 1"), sealed(stand, "limb -1 3 -1 1 0 0"), sealed(stand, "limb -1 3 -1 1 0 "), sealed(stand, "limb  -1 3 -1 1 0"),
		sealed(stand, "limb -1 3  -1 1 0"), sealed(stand, " limb -1 3 -1 1 0"), sealed(stand, "limp -1 3 -1 1 0"), sealed(stand, "Limb -1 3 -1 1 0"), sealed(stand, "-1 3 -1 1 0"),
		sealed(stand, "limb -01 3 -1 1 0"), sealed(stand, "limb -1 03 -1 1 0"), sealed(stand, "limb -1 3 -1 1 -0"), sealed(stand, "limb -1 100 -1 1 0"), sealed(stand, "limb -1 3 -100 1 0"), sealed(stand, "limb -1 3 -1 +1 0"),
		strings.Replace(good, "051", "51", 1), strings.Replace(good, "051", "0051", 1), strings.Replace(good, "051", "230", 1), strings.Replace(good, "051", "051 ", 1),
		strings.Replace(good, "051", "-51", 1), strings.Replace(good, "end 051", "end  051", 1), strings.Replace(good, "end", "End", 1), strings.Replace(good, "end 051", "end", 1), strings.Replace(good, "end 051", "051", 1),
		strings.Replace(good, "051", "052", 1), strings.ReplaceAll(good, "\n", "\r\n"), strings.Repeat("x", 200), strings.Repeat("\n", 200), strings.Repeat(" ", 200),
	} {
		if y, e := joint.Read(text); e != api.ErrText || !empty(y) {
			t.Errorf("%d: %q %v %v", i, text, y, e)
		}
	}
}

// P2.9: these have the form, and the right CHECK, and are no figures: a sheet has any numbers, and any number of limbs.
func TestReadFiguresThatAreNone(t *testing.T) {
	const stand, one = "figure 2", "limb -1 3 -1 1 0"
	for i, text := range []string{
		sealed(stand), sealed("figure 8", one), sealed("figure -1", one), sealed("figure 99", one), sealed("figure -99", one),
		sealed(stand, one, one, one, one, one, one), sealed(append([]string{stand}, slices.Repeat([]string{one}, 10)...)...),
		sealed(stand, "limb 0 3 -1 1 0"), sealed(stand, "limb -2 3 -1 1 0"), sealed(stand, one, "limb 1 3 -1 1 0"), sealed(stand, "limb -99 99 -99 99 99"),
		sealed(stand, "limb -1 0 -1 1 0"), sealed(stand, "limb -1 21 -1 1 0"), sealed(stand, "limb -1 -3 -1 1 0"), sealed(stand, "limb -1 3 2 1 0"), sealed(stand, "limb -1 3 -5 1 0"), sealed(stand, "limb -1 3 -1 5 0"),
		sealed(stand, "limb -1 3 -1 1 3"), sealed(stand, "limb -1 3 -1 1 -1"),
		sealed(stand, "limb -1 1 -4 4 0", "limb -1 1 -4 4 0", "limb -1 1 -4 4 0", "limb -1 1 0 2 0"),
	} {
		if y, e := joint.Read(text); e != api.ErrArg || !empty(y) {
			t.Errorf("%d: %q %v %v", i, text, y, e)
		}
	}
}

// A string that is too long is so, whatever is in it; one that has the most bytes is read.
func TestReadLong(t *testing.T) {
	lines := append([]string{"figure 2"}, slices.Repeat([]string{"limb -1 10 -1 1 0"}, 9)...)
	lines = append(lines, "limb -1 10 -10 1 10")
	longest := sealed(lines...)
	if len(longest) != api.JointText-1 {
		t.Fatal(len(longest))
	}
	lines[0] = "figure 20"
	longest = sealed(lines...)
	if y, e := joint.Read(longest); len(longest) != api.JointText || e != api.ErrArg || !empty(y) {
		t.Error(len(longest), y, e)
	}
	lines[0] = "figure -20"
	for i, text := range []string{sealed(lines...), longest + "\n", strings.Repeat("x", 201), sealed("figure 2", "limb -1 3 -1 1 0") + strings.Repeat("\n", 200), strings.Repeat("x", 1<<16)} {
		if y, e := joint.Read(text); e != api.ErrLong || !empty(y) {
			t.Errorf("%d: %v %v", i, y, e)
		}
	}
}

// P2.9: one digit that was changed is noticed, in the numbers and in CHECK.
func TestReadNoticesDigits(t *testing.T) {
	g := random(32)
	figures := []api.JointFigure{smallFigure(), figureA(), greatest()}
	for range 100 {
		figures = append(figures, randomFigure(g, 1, 2000))
	}
	for _, f := range figures {
		text, _ := joint.Print(f)
		for i := range text {
			if text[i] < '0' || text[i] > '9' {
				continue
			}
			for c := byte('0'); c <= '9'; c++ {
				if c == text[i] {
					continue
				}
				if y, e := joint.Read(text[:i] + string(c) + text[i+1:]); e != api.ErrText || !empty(y) {
					t.Fatalf("%q %d %c: %v %v", text, i, c, y, e)
				}
			}
		}
	}
}

// A string that is read is the sheet of what was read.
func TestReadIsStrict(t *testing.T) {
	g := random(33)
	const some = "0123456789 -\n+.befgilmrux\r\x00\xff"
	read := 0
	for range 20000 {
		lines := []string{"figure 0", "limb -1 2 -1 1 0", "limb 0 1 0 2 1", "limb -1 3 2 3 1"}
		n := g.IntN(len(lines))
		i := g.IntN(len(lines[n]) + 1)
		c := string(some[g.IntN(len(some))])
		rest := lines[n][i:]
		if len(rest) > 0 && g.IntN(2) == 0 {
			rest = rest[1:]
		}
		lines[n] = lines[n][:i] + c + rest
		text := sealed(lines...)
		y, e := joint.Read(text)
		if e != api.OK {
			if e != api.ErrText && e != api.ErrArg || !empty(y) {
				t.Fatalf("%q %v %v", text, y, e)
			}
			continue
		}
		read++
		if again, e := joint.Print(y); e != api.OK || again != text {
			t.Fatalf("%q %q %v", text, again, e)
		}
	}
	if read == 0 {
		t.Error("none was read")
	}
}
