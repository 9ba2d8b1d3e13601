package dalang_test

import (
	"fmt"
	"math/rand/v2"
	"regexp"
	"slices"
	"strconv"
	"strings"
	"testing"

	"kelir/api"
	"kelir/dalang"
)

// P10.8: the line of each kind of entries.
func TestLines(t *testing.T) {
	for _, x := range []struct {
		line  string
		entry api.DalangEntry
	}{
		{"wait 0", entry(api.DalangWait, 0)}, {"wait 100", entry(api.DalangWait, 100)}, {"begin 30", entry(api.DalangBegin, 30)}, {"begin 1000", entry(api.DalangBegin, 1000)},
		{"cue 0 2", entry(api.DalangCue, 0, 2)}, {"knock 1", entry(api.DalangKnock, 1)}, {"rest", entry(api.DalangRest)}, {"play 3", entry(api.DalangPlay, 3)}, {"lend 999", entry(api.DalangLend, 999)},
		{"back 2 139", entry(api.DalangBack, 2, 139)}, {"back 2 139 100", entry(api.DalangBack, 2, 139, 100)}, {"back 1000 1000 1000 1000 1000 1000 1000", entry(api.DalangBack, slices.Repeat(l(1000), 7)...)},
		{"pack", entry(api.DalangPack)}, {"pack 0", entry(api.DalangPack, 0)}, {"pack 1000 1000 1000 1000 1000 1000", entry(api.DalangPack, slices.Repeat(l(1000), 6)...)},
		{"unpack", entry(api.DalangUnpack)}, {"undo", entry(api.DalangUndo)},
	} {
		if y, e := dalang.Write(x.entry); e != api.OK || y != x.line {
			t.Error(x, y, e)
		}
		if y, e := dalang.Parse(x.line); e != api.OK || y.Kind != x.entry.Kind || !slices.Equal(y.Numbers, x.entry.Numbers) {
			t.Error(x, y, e)
		}
	}
	for i, x := range badEntries() {
		if y, e := dalang.Write(x); e != api.ErrArg || y != "" {
			t.Error(i, x, y, e)
		}
	}
}

// P10.8, P0.11: what was written is parsed as what was written, for all kinds and numbers.
func TestWriteAndParse(t *testing.T) {
	g := random(11)
	for kind := api.DalangWait; kind <= api.DalangUndo; kind++ {
		_, least, most := slowWord(kind)
		for many := least; many <= most; many++ {
			for n := range 1001 {
				numbers := slices.Repeat(l(n), many)
				for i := range numbers[:many/2] {
					numbers[i] = g.IntN(1001)
				}
				x := entry(kind, numbers...)
				line, e := dalang.Write(x)
				if e != api.OK || line != slowEntryLine(x) || len(line) > 40 {
					t.Fatal(x, line, e)
				}
				if y, e := dalang.Parse(line); e != api.OK || y.Kind != kind || !slices.Equal(y.Numbers, numbers) {
					t.Fatal(line, y, e)
				}
			}
		}
	}
}

// formed is the form of all lines of entries that are formed.
var formed = regexp.MustCompile(`\A(((wait|begin|knock|play|lend) N|(cue|back) N N|rest|unpack|undo)|back N( N){2,6}|pack( N){0,6})\z`)

var number = regexp.MustCompile(`\b(0|[1-9][0-9]{0,2}|1000)\b`)

// isLine reports whether a line is that of an entry that is formed.
func isLine(line string) bool {
	return !strings.Contains(line, "N") && formed.MatchString(number.ReplaceAllString(line, "N"))
}

// wrongLines are those of no entry, for any reason.
func wrongLines() []string {
	return []string{
		"", " ", "\n", "night", "can 0", "stands", "foo", "Wait 1", "WAIT 1", "wai 1", "waits 1", "wait1", "wait", "wait ", "wait  1", " wait 1", "wait 1 ", "wait 1 1", "wait\t1", "wait 1\n", "wait 1\r", "wait 01", "wait 00", "wait +1", "wait -1", "wait -0", "wait 1001", "wait 9999", "wait 10000", "wait 0x1", "wait 1.0", "wait 1e2", "wait 1_0", "wait x", "wait :", "wait /", "wait 1:", "wait 18446744073709551617", "wait 99999999999999999999999999999999999",
		"begin", "begin 1 2", "cue 0", "cue 0 0 0", "cue 0  0", "cue 0,0", "knock", "knock 0 0", "rest 0", "rest ", "play", "lend", "lend 1 2", "back", "back 2", "back 2 ", "back 0 1 1 1 1 1 1 1", "pack ", "pack 0 ", "pack -", "pack 0 0 0 0 0 0 0", "unpack 0", "undo ", "undo 0", "undo\n", "undo\x00", "\x00", "N", "wait N", "wait ١", "wait １", "ｗait 1", "wait\u00a01", "wait \xff", "\xff", strings.Repeat("x", 40), "wait " + strings.Repeat("0", 35), strings.Repeat(" ", 40),
	}
}

// wrongLine is one of no entry and no question, and has no line feed.
func wrongLine(g *rand.Rand) string {
	lines := []string{"", " ", "foo", "Wait 1", "waits 1", "wait", "wait ", "wait  1", "wait 1 1", "wait 01", "wait -1", "wait 1001", "rest 0", "back 2", "pack ", "night 0", "can"}
	return lines[g.IntN(len(lines))]
}

// P10.8: lines that are none, and those that are too long.
func TestWrongLines(t *testing.T) {
	for _, line := range wrongLines() {
		if y, e := dalang.Parse(line); e != api.ErrText || y.Kind != 0 || len(y.Numbers) > 0 || isLine(line) {
			t.Errorf("%q %v %v", line, y, e)
		}
		for _, long := range []string{line + strings.Repeat(" ", 41-len(line)), strings.Repeat(line, 41) + strings.Repeat("x", 41)} {
			if y, e := dalang.Parse(long); e != api.ErrLong || y.Kind != 0 || len(y.Numbers) > 0 {
				t.Errorf("%q %v %v", long, y, e)
			}
		}
	}
	if y, e := dalang.Parse("back 1000 1000 1000 1000 1000 1000 10000"); e != api.ErrText || y.Kind != 0 || len(y.Numbers) > 0 {
		t.Error(y, e)
	}
	if y, e := dalang.Parse("back 1000 1000 1000 1000 1000 1000 100000"); e != api.ErrLong || y.Kind != 0 || len(y.Numbers) > 0 {
		t.Error(y, e)
	}
}

// P10.8, P0.11: what was parsed is written the same, and a line is parsed just if it has the form.
func TestParseAndWrite(t *testing.T) {
	g := random(12)
	words := strings.Fields("wait begin cue knock rest play lend back pack unpack undo night can first x")
	parts := []string{" ", " ", " ", " ", "0", "1", "7", "10", "100", "999", "1000", "1001", "00", "-1", "", "x"}
	seen := met{}
	for range 100000 {
		line := words[g.IntN(len(words))]
		for range g.IntN(10) {
			if g.IntN(8) > 0 {
				line += " " + parts[4+g.IntN(7)]
			} else {
				line += parts[g.IntN(len(parts))]
			}
		}
		x, e := dalang.Parse(line)
		want := api.ErrText
		if len(line) > 40 {
			want = api.ErrLong
		} else if isLine(line) {
			want = api.OK
		}
		if e != want || e != api.OK && (x.Kind != 0 || len(x.Numbers) > 0) {
			t.Fatalf("%q %v %v %v", line, x, e, want)
		}
		seen.note(want, " ", x.Kind)
		if e != api.OK {
			continue
		}
		if y, e := dalang.Write(x); e != api.OK || y != line {
			t.Fatalf("%q %v %q %v", line, x, y, e)
		}
	}
	for kind := range 11 {
		seen.atLeast(t, 100, fmt.Sprint("0 ", kind+1))
	}
	seen.atLeast(t, 50, "4 0", "3 0")
}

// P10.9, P0.10: a desk that is replayed from a journal answers as the one that wrote it, and goes on as that one does.
func TestJournalAndReplay(t *testing.T) {
	seen := met{}
	for seed := range uint64(80) {
		g := random(100 + seed)
		s := randomSuite(g)
		d, slowly := open(t, s), &slow{s: s}
		for range 60 {
			x := randomEntry(g, s)
			if e := d.Enter(x); e == api.OK {
				slowly.entries = append(slowly.entries, x)
			}
			if g.IntN(5) > 0 {
				continue
			}
			journal, e := d.Journal()
			if e != api.OK || journal != slowly.journal() || len(journal) > api.DalangText {
				t.Fatalf("%v %q %v", slowly.entries, journal, e)
			}
			again, n, e := dalang.Replay(s, journal)
			if e != api.OK || n != -1 || wholeOf(again, s) != wholeOf(d, s) {
				t.Fatalf("%v %q %v %v", s, journal, n, e)
			}
			seen.note("full ", len(slowly.entries) == 24)
			if g.IntN(2) == 0 {
				d = again
			}
		}
	}
	seen.atLeast(t, 50, "full true", "full false")
}

// P0.10: a hundred nights at the chapter's desk, with all kinds of entries.
func TestHundredNights(t *testing.T) {
	const journal = "wait 10\nbegin 30\nbegin 10\nknock 0\ncue 1 1\nrest\nwait 30\ncue 0 0\nplay 1\nlend 0\nlend 3\nundo\nback 0 99 101\nplay 2\nwait 20\npack 0 1 1 1 2\nundo\npack 0 0 1 0 2\nwait 39\nunpack\nplay 0\nknock 0\nwait 2\nwait 1\n"
	d, n, e := dalang.Replay(suiteS(), strings.Replace(journal, "wait 2\nwait 1", "wait 1\nundo", 1))
	if e != api.OK || n != -1 {
		t.Fatal(n, e)
	}
	mustAnswer(t, d, question(api.DalangNight), l(99), api.OK)
	// The nights would be 101 then.
	if d, n, e := dalang.Replay(suiteS(), journal); e != api.ErrRule || n != 22 || d != nil {
		t.Error(n, e)
	}
	d, n, e = dalang.Replay(suiteS(), strings.Replace(journal, "wait 2\nwait 1\n", "wait 1\n", 1))
	if e != api.OK || n != -1 {
		t.Fatal(n, e)
	}
	for _, x := range []struct {
		q    api.DalangQuestion
		want []int
	}{
		{question(api.DalangNight), l(100)}, {question(api.DalangProgramme), l(0, 1, 2, 4)}, {question(api.DalangRemains), l(0, 1, 2)}, {question(api.DalangNever, 2), nil}, {question(api.DalangHome), l(0, 1, 2, 3, 4)}, {question(api.DalangPlayed), l(1, 2, 0)}, {question(api.DalangStands), l(0, 1, 2, 3, 4, 5, 6, 7, 8, 9, 12, 13, 14, 17, 18, 19, 20, 21, 22)},
	} {
		mustAnswer(t, d, x.q, x.want, api.OK)
	}
}

// P10.9: the longest journal is replayed.
func TestLongestJournal(t *testing.T) {
	s := with(greatSuite(), func(s *api.DalangSuite) { s.Register.Mends = 2 })
	d := open(t, s)
	for range 12 {
		enter(t, d, entry(api.DalangLend, 5), entry(api.DalangBack, 5, 500, 495, 500, 500, 1000, 1000))
	}
	journal, e := d.Journal()
	if e != api.OK || journal != strings.Repeat("lend 5\nback 5 500 495 500 500 1000 1000\n", 12) {
		t.Errorf("%q %v", journal, e)
	}
	again, n, e := dalang.Replay(s, journal)
	if e != api.OK || n != -1 || wholeOf(again, s) != wholeOf(d, s) {
		t.Error(n, e)
	}
}

// P10.9: journals that cannot be replayed, with their first line that cannot be entered.
func TestWrongJournals(t *testing.T) {
	for i, x := range []struct {
		journal string
		at      int
		want    api.Errno
	}{
		{"lend 2\nplay 0\n", 1, api.ErrRule}, {"undo\n", 0, api.ErrRule}, {"wait 1\nundo\nundo\nfoo\n", 2, api.ErrRule}, {"wait 1\nlend 5\nlend 6\n", 1, api.ErrRule},
		{"\n", 0, api.ErrText}, {"wait 1", 0, api.ErrText}, {"wait 1\n\n", 1, api.ErrText}, {"wait 1\nwait 1", 1, api.ErrText}, {"wait 1\nunpack", 1, api.ErrText}, {"unpack\nwait 1", 0, api.ErrRule}, {"wait 1\n ", 1, api.ErrText}, {"wait 1\r\n", 0, api.ErrText}, {"wait 1\nnight\n", 1, api.ErrText}, {"night\nunpack\n", 0, api.ErrText}, {"wait 1001\n", 0, api.ErrText}, {"\nwait 1\n", 0, api.ErrText},
		{strings.Repeat("x", 41) + "\n", 0, api.ErrText}, {"wait 1\n" + strings.Repeat("x", 41), 1, api.ErrText}, {"wait 1\nundo\n" + strings.Repeat(" ", 900) + "\n", 2, api.ErrText},
		{strings.Repeat("wait 1\n", 25), 24, api.ErrLong}, {strings.Repeat("wait 1\n", 24) + "undo\n", 24, api.ErrLong}, {strings.Repeat("wait 1\n", 24) + "unpack\n", 24, api.ErrLong}, {strings.Repeat("wait 1\n", 24) + "wait\n", 24, api.ErrText}, {strings.Repeat("wait 1\n", 24) + "\n", 24, api.ErrText}, {strings.Repeat("wait 1\n", 24) + "wait 1", 24, api.ErrText},
		{strings.Repeat("wait 1\n", 142) + "rest\n\n", 24, api.ErrLong}, {strings.Repeat("wait 1\n", 142) + "rest\n\n\n", 0, api.ErrLong}, {strings.Repeat("x", 1001), 0, api.ErrLong}, {strings.Repeat("x", 1000), 0, api.ErrText}, {strings.Repeat("\n", 1000000), 0, api.ErrLong},
	} {
		if d, n, e := dalang.Replay(suiteS(), x.journal); e != x.want || n != x.at || d != nil {
			t.Error(i, n, e)
		}
		for j, s := range badSuites()[:9] {
			if d, n, e := dalang.Replay(s, x.journal); e != api.ErrArg || n != 0 || d != nil {
				t.Error(i, j, n, e)
			}
		}
	}
	for _, journal := range []string{"", strings.Repeat("wait 1\n", 24), "wait 1\nundo\n"} {
		d, n, e := dalang.Replay(suiteS(), journal)
		if e != api.OK || n != -1 {
			t.Fatal(journal, n, e)
		}
		if y, e := d.Journal(); e != api.OK || y != journal {
			t.Error(journal, y, e)
		}
	}
}

// P10.9: of a journal in which a line was changed, all that comes before it is replayed.
func TestChangedJournals(t *testing.T) {
	g := random(13)
	seen := met{}
	for range 300 {
		s := randomSuite(g)
		slowly, wanted, at := &slow{s: s}, api.OK, -1
		var lines []string
		for n := 0; n < 28 && at < 0; n++ {
			x := randomEntry(g, s)
			line := slowEntryLine(x)
			if g.IntN(40) == 0 {
				line = wrongLine(g)
			}
			e := api.ErrText
			if isLine(line) {
				e = slowly.enter(x)
			}
			if e == api.ErrRule && g.IntN(15) > 0 {
				continue
			}
			lines = append(lines, line)
			if e != api.OK {
				wanted, at = e, len(lines)-1
			}
		}
		// What comes behind does not matter.
		if at >= 0 {
			lines = append(lines, "unpack", "x", "undo")
		}
		journal := strings.Join(append(lines, ""), "\n")
		d, n, e := dalang.Replay(s, journal)
		if e != wanted || n != at || (d == nil) != (e != api.OK) {
			t.Fatalf("%v %q %v %v %v %v", s, journal, n, e, at, wanted)
		}
		seen.note(e)
		if e == api.OK && wholeOf(d, s) == "" {
			t.Fatal(journal)
		}
	}
	seen.atLeast(t, 10, "0", "4", "7")
}

func mustConsole(t *testing.T, s api.DalangSuite, lines, answers []string) {
	t.Helper()
	if len(lines) != len(answers) {
		t.Fatal(len(lines), len(answers))
	}
	y, e := dalang.Console(s, strings.Join(append(slices.Clone(lines), ""), "\n"))
	if e != api.OK {
		t.Fatal(lines, e)
	}
	got := strings.Split(y, "\n")
	for n, want := range append(slices.Clone(answers), "") {
		if n >= len(got) || got[n] != want {
			t.Fatalf("%q: %q and not %q in the line %d", lines[:min(n+1, len(lines))], got[min(n, len(got)-1)], want, n)
		}
	}
	if len(got) != len(lines)+1 {
		t.Fatal(lines, y)
	}
}

// P10.10: the chapter's script, with each line and its answer one below the other.
func TestChapterScript(t *testing.T) {
	const script = `night=0; programme=0 1 2 4; begin 30=noted; programme=0 2 4; ends=70 70 120 130 180 200; begin 31=error 7; undo=noted; programme=0 1 2 4; remains=0 1 2 3; ask=0 4; cue 0 0=noted; never 2=0; cue 0 1=error 7; knock 1=noted; cue 0 2=noted; remains=0; ask=-1 0; best=0 0 1 0 2; rest=noted; rest=error 7; play 0=noted; lend 2=noted; home=0 1 3 4; play 1=error 7; can 1=0; first 1=1 3 2; back 2 130 100=error 7; back 2 139 100=noted; pack 0 0 1 1 2=error 7; pack 0 0 1 0 2=noted; play 0=error 7; out 2=0 1 3; unpack=noted; out 2=error 7; wait 100=noted; wait 1=error 7; played=0; stands=2 3 4 5 6 7 8 9 10 11; undo=noted; night=0`
	var lines, answers []string
	for _, pair := range strings.Split(script, "; ") {
		line, answer, _ := strings.Cut(pair, "=")
		lines, answers = append(lines, line), append(answers, answer)
	}
	mustConsole(t, suiteS(), lines, answers)
	// Questions change nothing.
	var entered, noted []string
	for n, line := range lines {
		if answers[n] == "noted" || strings.HasPrefix(line, "play ") {
			entered, noted = append(entered, line), append(noted, answers[n])
		}
	}
	mustConsole(t, suiteS(), entered, noted)
}

// P10.10: each kind of answers, and each error.
func TestAnswers(t *testing.T) {
	mustConsole(t, suiteS(),
		[]string{"stands", "played", "never 2", "can 0", "can 4", "can 1000", "can 1001", "can", "can 0 0", "never 3", "first 4", "first 2", "out 4", "out 5", "home", "lend 0", "lend 0", "home", "lend 1", "lend 2", "lend 3", "lend 4", "home", "unpack", "wait", "", " ", "foo", "night ", "night 0", "Night", "night\r", "undo", "stands"},
		[]string{"nothing", "nothing", "nothing", "1", "error 2", "error 2", "error 4", "error 4", "error 4", "error 2", "error 2", "0 1 3 2", "error 7", "error 2", "0 1 2 3 4", "noted", "error 7", "1 2 3 4", "noted", "noted", "noted", "noted", "nothing", "error 7", "error 4", "error 4", "error 4", "error 4", "error 4", "error 4", "error 4", "error 4", "noted", "0 1 2 3"})
	mustConsole(t, suiteS(), []string{"cue 1 1", "cue 0 0", "cue 0 0", "ask"}, []string{"noted", "noted", "noted", "error 5"})
	mustConsole(t, suiteS(), []string{strings.Repeat("x", 40), strings.Repeat("x", 41), "wait 1" + strings.Repeat(" ", 34), "wait 1" + strings.Repeat(" ", 35), "night" + strings.Repeat(" ", 36), strings.Repeat("é", 20), strings.Repeat("é", 21)}, []string{"error 4", "error 3", "error 4", "error 3", "error 3", "error 4", "error 3"})
	mustConsole(t, suiteS(), slices.Concat(slices.Repeat([]string{"knock 1", "undo"}, 12), []string{"undo", "wait 1", "unpack", "wait", "stands"}), slices.Concat(slices.Repeat([]string{"noted"}, 24), []string{"error 3", "error 3", "error 3", "error 4", "nothing"}))
	for _, line := range wrongLines() {
		if strings.Contains(line, "\n") || line == "night" || line == "can 0" || line == "stands" {
			continue
		}
		mustConsole(t, suiteS(), []string{line, "stands"}, []string{"error 4", "nothing"})
	}
}

// P10.10: the longest script, and scripts that are none.
func TestScripts(t *testing.T) {
	for i, x := range []struct {
		script string
		want   api.Errno
	}{
		{"", api.OK}, {"night", api.ErrText}, {"night\nnight", api.ErrText}, {"night\n ", api.ErrText}, {" ", api.ErrText}, {strings.Repeat("x", 1000), api.ErrText}, {strings.Repeat("x", 1001), api.ErrLong}, {strings.Repeat("\n", 1001), api.ErrLong}, {strings.Repeat("night\n", 200000), api.ErrLong},
	} {
		if y, e := dalang.Console(suiteS(), x.script); e != x.want || y != "" {
			t.Errorf("%d: %q %v", i, y, e)
		}
		for j, s := range badSuites()[:9] {
			if y, e := dalang.Console(s, x.script); e != api.ErrArg || y != "" {
				t.Error(i, j, y, e)
			}
		}
	}
	mustConsole(t, suiteS(), slices.Repeat([]string{""}, 1000), slices.Repeat([]string{"error 4"}, 1000))
	mustConsole(t, greatSuite(), slices.Repeat([]string{"best"}, 200), slices.Repeat([]string{"0 0 0 0 0 0"}, 200))
	mustConsole(t, greatSuite(), slices.Repeat([]string{"ask"}, 250), slices.Repeat([]string{"0 7"}, 250))
}

// slowAnswer is the answer of a desk to a line.
func slowAnswer(y []int, e api.Errno) string {
	if e != api.OK {
		return "error " + strconv.Itoa(int(e))
	}
	if len(y) == 0 {
		return "nothing"
	}
	return strings.Trim(fmt.Sprint(y), "[]")
}

// kindOf returns an answer, or numbers for any of these.
func kindOf(answer string) string {
	if strings.Trim(answer, "-0123456789 ") == "" {
		return "numbers"
	}
	return answer
}

// P10.10: scripts answer line by line as the desk does.
func TestConsoleAgainstSlow(t *testing.T) {
	g := random(14)
	seen := met{}
	for range 400 {
		s := randomSuite(g)
		slowly := &slow{s: s}
		all := questions(s)[2:]
		var lines, answers []string
		for size := 0; size < 900; size += len(lines[len(lines)-1]) + 1 {
			line, answer := wrongLine(g), "error 4"
			switch n := g.IntN(20); {
			case n > 7:
				x := randomEntry(g, s)
				line, answer = slowEntryLine(x), slowAnswer(nil, slowly.enter(x))
				if answer == "nothing" {
					answer = "noted"
				}
			case n > 0:
				q := all[g.IntN(len(all))]
				line, answer = slowQuestionLine(q), slowAnswer(slowly.ask(q))
			}
			lines, answers = append(lines, line), append(answers, answer)
			seen.note(kindOf(answer))
		}
		mustConsole(t, s, lines, answers)
	}
	seen.atLeast(t, 50, "noted", "nothing", "numbers", "error 2", "error 3", "error 4", "error 5", "error 7")
}
