package night_test

import (
	"fmt"
	"math/rand/v2"
	"slices"
	"strings"
	"testing"

	"kelir/api"
	"kelir/night"
)

// sealed returns the sheet with these lines, and with the right CHECK.
func sealed(lines ...string) string {
	sum, text := 0, ""
	for n, line := range lines {
		for place, c := range []byte(line) {
			sum += int(c) * (place + 1) * (n + 1)
		}
		text += line + "\n"
	}
	return text + fmt.Sprintf("end %03d\n", sum%181)
}

func empty(p api.NightPlan) bool { return samePlan(p, api.NightPlan{}) }

func smallPlan() api.NightPlan {
	return plan(0, span(0, 1), span(0, 1), span(0, 1), scene(0, 1, 1))
}

// longestPlan is one whose sheet is as long as that of any plan.
func longestPlan() api.NightPlan {
	return with(greatestPlan(), func(p *api.NightPlan) {
		for n := range p.Scenes {
			p.Scenes[n].Least, p.Scenes[n].Wants = 240, (n+1)%10
		}
	})
}

// writtenPlan is a plan with any numbers that a plan can have.
func writtenPlan(g *rand.Rand) api.NightPlan {
	window := func() api.Span {
		low := g.IntN(901)
		return span(low, min(900, low+g.IntN(31)))
	}
	p := plan(g.IntN(901), window(), window(), window())
	many := 1 + g.IntN(10)
	for n := range many {
		least := 1 + g.IntN(240)
		s := scene(n*3/many, least, least+g.IntN(241-least))
		s.Loose = n < 6 && g.IntN(2) == 0
		if other := g.IntN(many); other != n {
			s.Wants = other
		}
		p.Scenes = append(p.Scenes, s)
	}
	return p
}

// P3.8.
func TestPrint(t *testing.T) {
	for i, x := range []struct {
		p    api.NightPlan
		want string
	}{
		{smallPlan(), "night 0 0 1 0 1 0 1\nscene 0 1 1 -\nend 035\n"},
		{planP(), sealed("night 0 60 70 120 130 180 200", "scene 0 40 50 -", "battle 0 20 30 -", "scene 1 50 60 -", "battle 1 30 40 1", "scene 2 55 70 -")},
		// a plan that is not possible
		{planQ(), sealed("night 0 60 70 120 130 210 220", "scene 0 40 50 -", "battle 0 20 30 -", "scene 1 50 60 -", "battle 1 30 40 1", "scene 2 55 70 -")},
		{plan(900, span(870, 900), span(0, 0), span(10, 20), wanting(scene(2, 240, 240), 1), wanting(battle(2, 1, 9), 0)), sealed("night 900 870 900 0 0 10 20", "scene 2 240 240 1", "battle 2 1 9 0")},
	} {
		if y, e := night.Print(x.p); e != api.OK || y != x.want {
			t.Errorf("%d: %q %v", i, y, e)
		}
	}
	if y, e := night.Print(longestPlan()); e != api.OK || len(y) != 228 {
		t.Error(y, len(y), e)
	}
}

// P3.8, P0.11: what was written is read as what was written.
func TestReadWhatWasPrinted(t *testing.T) {
	g := random(41)
	plans := []api.NightPlan{smallPlan(), planP(), planQ(), calmPlan(), restPlan(), greatestPlan(), longestPlan()}
	for range 500 {
		plans = append(plans, writtenPlan(g), randomPlan(g))
	}
	for _, p := range plans {
		text, e := night.Print(p)
		if e != api.OK || len(text) > api.NightText {
			t.Fatal(p, text, e)
		}
		if y, e := night.Read(text); e != api.OK || !samePlan(y, p) {
			t.Fatalf("%q %v %v", text, y, e)
		}
	}
}

// P3.8: strings that have not the form, with the right CHECK where there is one.
func TestReadForms(t *testing.T) {
	const first, one = "night 0 0 1 0 1 0 1", "scene 0 1 1 -"
	good := sealed(first, one)
	texts := []string{
		"", "\n", "end 000\n", first, first + "\n", sealed(), sealed(""), sealed(one), sealed(one, first), sealed(first, first, one),
		good[1:], good + "\n", "\n" + good, strings.TrimSuffix(good, "\n"), good + good, sealed(first, "", one), sealed(first, one, ""), sealed("", first, one),
		sealed(first, one, "end 035"), sealed(first, "end 035", one), first + "\n" + one + "\n",
		strings.Replace(good, "035", "35", 1), strings.Replace(good, "035", "0035", 1), strings.Replace(good, "035", "216", 1), strings.Replace(good, "035", "035 ", 1),
		strings.Replace(good, "035", "-35", 1), strings.Replace(good, "end 035", "end  035", 1), strings.Replace(good, "end", "End", 1), strings.Replace(good, "end 035", "end", 1), strings.Replace(good, "end 035", "035", 1),
		strings.Replace(good, "035", "036", 1), strings.Replace(good, "035", "034", 1), strings.ReplaceAll(good, "\n", "\r\n"), strings.Repeat("x", 300), strings.Repeat("\n", 300), strings.Repeat(" ", 300),
	}
	for _, line := range []string{
		"Night 0 0 1 0 1 0 1", "nights 0 0 1 0 1 0 1", "nigh 0 0 1 0 1 0 1", "scene 0 0 1 0 1 0 1", "end 0 0 1 0 1 0 1", "night\t0 0 1 0 1 0 1", "0 0 1 0 1 0 1", " night 0 0 1 0 1 0 1",
		"night", "night ", "night 0", "night 0 0 1 0 1 0", "night 0 0 1 0 1 0 1 0", "night 0 0 1 0 1 0 1 ", "night  0 0 1 0 1 0 1", "night 0 0 1  0 1 0 1", "night 0 0 1 0 1 0 ", "night  0 1 0 1 0 1",
		"night 00 0 1 0 1 0 1", "night 0 00 1 0 1 0 1", "night 0 0 01 0 1 0 1", "night 0 0 1 000 1 0 1", "night 0 0 1 0 001 0 1", "night 0 0 1 0 1 0 1000", "night 1000 0 1 0 1 0 1", "night 0 0 1 0 1 0 0001",
		"night -0 0 1 0 1 0 1", "night -1 0 1 0 1 0 1", "night +1 0 1 0 1 0 1", "night 0 - 1 0 1 0 1", "night - 0 1 0 1 0 1", "night 0 0 1 0 1 0 -", "night 0 0 x 0 1 0 1", "night 0 0 / 0 1 0 1", "night 0 0 : 0 1 0 1",
		"night 0 0 é 0 1 0 1", "night 0 0 \xff 0 1 0 1", "night 0 0 ٢ 0 1 0 1", "night 0 0 1 0 1 0 1\r", "night 0 0 1. 0 1 0 1", "night 0 0 1e1 0 1 0 1", "night 18446744073709551616 0 1 0 1 0 1",
	} {
		texts = append(texts, sealed(line, one))
	}
	for _, line := range []string{
		"Scene 0 1 1 -", "scenes 0 1 1 -", "scena 0 1 1 -", "battles 0 1 1 -", "Battle 0 1 1 -", "night 0 1 1 -", "end 0 1 1 -", "0 1 1 -", " scene 0 1 1 -", " 0 1 1 -", "scene  0 1 1 -", "scene 0 1 1  -", "scene 0 1 1 - ",
		"scene", "battle", "scene 0", "scene 0 1 1", "scene 0 1 -", "scene 0 1 1 - -", "scene 0 1 1 1 1", "scene 0 1 1 ", "scene 0 1  -", "scene 0 1 1 --", "scene 0 1 1 -1", "scene 0 1 1 -0", "scene 0 1 1 +", "scene 0 1 1 00", "scene 0 1 1 1000",
		"scene - 1 1 -", "scene 0 - 1 -", "scene 0 1 - -", "scene 00 1 1 -", "scene 0 01 1 -", "scene 0 1 01 -", "scene 0 1 1000 -", "scene 0 1000 1 -", "scene 1000 1 1 -", "scene -1 1 1 -", "scene 0 1 x -", "scene 0 1 ² -", "battle 0 1 1 x",
		"battle 0 1 1 -\r", "battle 0 1 1", "battle 0 1 1 - 0", "loose 0 1 1 -", "scene\t0 1 1 -", "scene 0 1 1 none",
	} {
		texts = append(texts, sealed(first, line), sealed(first, one, line))
	}
	for i, text := range texts {
		if y, e := night.Read(text); e != api.ErrText || !empty(y) {
			t.Errorf("%d: %q %v %v", i, text, y, e)
		}
	}
}

// P3.8: these have the form, and the right CHECK, and are no plans: a sheet has any numbers, and any number of scenes.
func TestReadPlansThatAreNone(t *testing.T) {
	const first, one = "night 0 0 1 0 1 0 1", "scene 0 1 1 -"
	for i, text := range []string{
		sealed(first), sealed("night 901 0 1 0 1 0 1", one), sealed("night 999 999 999 999 999 999 999", one), sealed("night 0 1 0 0 1 0 1", one), sealed("night 0 0 31 0 1 0 1", one), sealed("night 0 0 1 0 31 0 1", one),
		sealed("night 0 0 1 0 1 0 31", one), sealed("night 0 0 1 0 1 900 901", one), sealed(append([]string{first}, slices.Repeat([]string{one}, 11)...)...), sealed(append([]string{first}, slices.Repeat([]string{"battle 0 1 1 -"}, 7)...)...),
		sealed(first, "scene 3 1 1 -"), sealed(first, "scene 999 1 1 -"), sealed(first, "scene 1 1 1 -", one), sealed(first, "scene 0 0 1 -"), sealed(first, "scene 0 2 1 -"), sealed(first, "scene 0 1 241 -"), sealed(first, "battle 0 1 999 -"),
		sealed(first, "scene 0 1 1 0"), sealed(first, "scene 0 1 1 1"), sealed(first, "battle 0 1 1 999"), sealed(first, one, "battle 0 1 1 1"), sealed(first, one, "battle 0 1 1 2"),
	} {
		if y, e := night.Read(text); e != api.ErrArg || !empty(y) {
			t.Errorf("%d: %q %v %v", i, text, y, e)
		}
	}
	// a wrong CHECK comes first
	if y, e := night.Read(strings.Replace(sealed(first, "scene 3 1 1 -"), "077", "078", 1)); e != api.ErrText || !empty(y) {
		t.Error(y, e)
	}
}

// A string that is too long is so, whatever is in it; one that has the most bytes is read.
func TestReadLong(t *testing.T) {
	lines := append([]string{"night 0 0 1 0 1 0 1"}, slices.Repeat([]string{"scene 0 1 1 -"}, 19)...)
	lines = append(lines, "battle 0 1 1 -")
	if text := sealed(lines...); len(text) != api.NightText+9 {
		t.Fatal(len(text))
	}
	lines = slices.Delete(lines, 1, 2)
	lines[1], lines[2] = "scene 100 1 1 -", "scene 100 10 1 -"
	longest := sealed(lines...)
	if y, e := night.Read(longest); len(longest) != api.NightText || e != api.ErrArg || !empty(y) {
		t.Error(len(longest), y, e)
	}
	lines[3] = "scene 0 10 1 -"
	for i, text := range []string{sealed(lines...), longest + "\n", strings.Repeat("x", 301), sealed("night 0 0 1 0 1 0 1", "scene 0 1 1 -") + strings.Repeat("\n", 300), strings.Repeat("x", 1<<16)} {
		if y, e := night.Read(text); e != api.ErrLong || !empty(y) {
			t.Errorf("%d: %v %v", i, y, e)
		}
	}
}

// P3.8: one digit that was changed is noticed, in the numbers and in CHECK.
func TestReadNoticesDigits(t *testing.T) {
	g := random(42)
	plans := []api.NightPlan{smallPlan(), planP(), planQ(), longestPlan()}
	for range 100 {
		plans = append(plans, writtenPlan(g))
	}
	for _, p := range plans {
		text, _ := night.Print(p)
		for i := range text {
			if text[i] < '0' || text[i] > '9' {
				continue
			}
			for c := byte('0'); c <= '9'; c++ {
				if c == text[i] {
					continue
				}
				if y, e := night.Read(text[:i] + string(c) + text[i+1:]); e != api.ErrText || !empty(y) {
					t.Fatalf("%q %d %c: %v %v", text, i, c, y, e)
				}
			}
		}
	}
}

// A string that is read is the sheet of what was read.
func TestReadIsStrict(t *testing.T) {
	g := random(43)
	const some = "0123456789 -\n+.abceghilnst\r\x00\xff"
	read := 0
	for range 20000 {
		lines := []string{"night 0 60 70 120 130 180 200", "scene 0 40 50 -", "battle 0 20 30 -", "scene 1 50 60 -", "battle 1 30 40 1", "scene 2 55 70 -"}
		n := g.IntN(len(lines))
		i := g.IntN(len(lines[n]) + 1)
		c := string(some[g.IntN(len(some))])
		rest := lines[n][i:]
		if len(rest) > 0 && g.IntN(2) == 0 {
			rest = rest[1:]
		}
		lines[n] = lines[n][:i] + c + rest
		text := sealed(lines...)
		y, e := night.Read(text)
		if e != api.OK {
			if e != api.ErrText && e != api.ErrArg || !empty(y) {
				t.Fatalf("%q %v %v", text, y, e)
			}
			continue
		}
		read++
		if again, e := night.Print(y); e != api.OK || again != text {
			t.Fatalf("%q %q %v", text, again, e)
		}
	}
	if read == 0 {
		t.Error("none was read")
	}
}
