package branch_test

import (
	"fmt"
	"math"
	"math/rand/v2"
	"reflect"
	"slices"
	"testing"

	"kelir/api"
	"kelir/branch"
)

// calls are those of all functions that take a story.
func calls(s api.BranchStory, n api.BranchEvening, play, seen []int) map[string][]any {
	list := func(y ...any) []any { return y }
	out := map[string][]any{"Check": list(branch.Check(s))}
	plays, e := branch.Plays(s)
	out["Plays"] = list(plays, e)
	ways, e := branch.Ways(s, play)
	out["Ways"] = list(ways, e)
	rules, e := branch.Rules(s, play)
	out["Rules"] = list(rules, e)
	y, e := branch.Surely(s)
	out["Surely"] = list(y, e)
	next, e := branch.Follows(s, play)
	out["Follows"] = list(next, e)
	plays, e = branch.Agrees(s, seen)
	out["Agrees"] = list(plays, e)
	got, e := branch.Verdicts(s, n)
	out["Verdicts"] = list(got, e)
	one, choice, lengths, e := branch.Evening(s, n)
	out["Evening"] = list(one, choice, lengths, e)
	span, e := branch.Begins(s, n)
	out["Begins"] = list(span, e)
	y, e = branch.Common(s, n)
	out["Common"] = list(y, e)
	rules, e = branch.Needs(s, n)
	out["Needs"] = list(rules, e)
	rules, e = branch.Losses(s, n)
	out["Losses"] = list(rules, e)
	text, e := branch.Print(s)
	out["Print"] = list(text, e)
	return out
}

// atNight are the functions that take a night.
func atNight() []string {
	return []string{"Verdicts", "Evening", "Begins", "Common", "Needs", "Losses"}
}

// mustFail reports a call that has another error, or another result than zero values.
func mustFail(t *testing.T, y []any, want api.Errno, about ...any) {
	t.Helper()
	last := len(y) - 1
	if y[last] != want {
		t.Error(append(about, y)...)
	}
	for _, v := range y[:last] {
		if !isZero(v) {
			t.Error(append(about, y)...)
		}
	}
}

// P9.1 to P9.8, P0.1: each function returns ErrArg, and nothing else, for a story that is not as defined.
func TestBadStories(t *testing.T) {
	for i, s := range badStories() {
		for name, y := range calls(s, nightN(), nil, nil) {
			mustFail(t, y, api.ErrArg, i, name)
		}
		for name, y := range calls(s, nightN(), l(0), l(-1)) {
			mustFail(t, y, api.ErrArg, i, name)
		}
	}
}

// P9.4 to P9.7: each function that takes a night returns ErrArg, and nothing else, for one that is not as defined, also if there are no plays.
func TestBadNights(t *testing.T) {
	for i, n := range badNights() {
		for _, s := range []api.BranchStory{storyS(), deadStory(), {}} {
			all := calls(s, n, nil, nil)
			for _, name := range atNight() {
				mustFail(t, all[name], api.ErrArg, i, name)
			}
		}
	}
	for i, n := range []api.BranchEvening{
		{}, beginning(nightN(), 900), evening(0, sp(870, 900), sp(0, 30), sp(900, 900)), evening(900, sp(0, 0), sp(870, 900), sp(0, 30)),
	} {
		if y, e := branch.Verdicts(storyS(), n); e != api.OK || len(y) != 6 {
			t.Error(i, y, e)
		}
	}
}

// P9.1 to P9.7: stories without plays, and nights that no play fits.
func TestNothingFits(t *testing.T) {
	dead := calls(deadStory(), nightN(), l(0, 0), l(-1))
	for _, name := range []string{"Rules", "Surely", "Evening", "Begins", "Common", "Needs", "Losses"} {
		mustFail(t, dead[name], api.ErrNone, name)
	}
	for _, name := range []string{"Plays", "Ways", "Follows", "Agrees", "Verdicts"} {
		mustFail(t, dead[name], api.OK, name)
	}
	all := calls(storyS(), nightM(), nil, nil)
	for _, name := range []string{"Evening", "Begins", "Common", "Needs", "Losses"} {
		mustFail(t, all[name], api.ErrNone, name)
	}
}

// P9.9: with a rule more, each play still is one, and one that fits still fits.
func TestRuleMore(t *testing.T) {
	g := random(41)
	some := met{}
	for range 1500 {
		s := randomStory(g)
		n := randomNight(g, s)
		from := wildStory(g)
		r := from.Rules[g.IntN(len(from.Rules))]
		eased := with(s, func(eased *api.BranchStory) {
			eased.Rules = slices.Insert(eased.Rules, g.IntN(len(s.Rules)+1), r)
		})
		good := branch.Check(eased) == api.OK
		some.note("good ", good)
		if !good {
			continue
		}
		before, _ := branch.Plays(s)
		after, _ := branch.Plays(eased)
		fit, _ := branch.Verdicts(s, n)
		fitLater, _ := branch.Verdicts(eased, n)
		for i, play := range before {
			at := slices.IndexFunc(after, func(other []int) bool { return slices.Equal(other, play) })
			if at < 0 || fitLater[at] != fit[i] {
				t.Fatal(s, eased, n, play, fit[i])
			}
			few, _ := branch.Ways(s, play)
			many, _ := branch.Ways(eased, play)
			if few > many || few < 1 {
				t.Fatal(s, eased, play, few, many)
			}
			some.note("ways ", few < many)
		}
		some.note("plays ", len(before) < len(after))
		checkEased(t, s, eased, n, some)
	}
	some.atLeast(t, 20, "good true", "good false", "ways true", "ways false", "plays true", "plays false", "wider true", "wider false", "fewer true", "fewer false")
}

// checkEased compares what fits with what fits with a rule more.
func checkEased(t *testing.T, s, eased api.BranchStory, n api.BranchEvening, some met) {
	t.Helper()
	if _, _, _, e := branch.Evening(s, n); e == api.OK {
		needs, _ := branch.Needs(s, n)
		later, f := branch.Needs(eased, n)
		losses, _ := branch.Losses(s, n)
		fewer, h := branch.Losses(eased, n)
		if f != api.OK || h != api.OK || len(later) > len(needs) || len(fewer) > len(losses) {
			t.Fatal(s, eased, n, needs, later, losses, fewer)
		}
		some.note("fewer ", len(fewer) < len(losses))
	}
	if span, e := branch.Begins(s, n); e == api.OK {
		wider, e := branch.Begins(eased, n)
		if e != api.OK || wider.Low > span.Low || wider.High < span.High {
			t.Fatal(s, eased, n, span, wider, e)
		}
		some.note("wider ", wider != span)
	}
}

// Nil and empty lists are the same (R3).
func TestNilAndEmpty(t *testing.T) {
	for i, none := range ll(nil, l()) {
		all := calls(storyS(), nightN(), none, none)
		for name, want := range map[string]string{"Ways": "[0 0]", "Follows": "[[0] 0]", "Agrees": "[[] 0]", "Rules": "[[] 5]"} {
			if y := fmt.Sprint(all[name]); y != want {
				t.Error(i, name, y)
			}
		}
		bad := with(storyS(), func(s *api.BranchStory) { s.Rules[2].To = none })
		if e := branch.Check(bad); e != api.ErrArg {
			t.Error(i, e)
		}
	}
	for i, s := range []api.BranchStory{{Episodes: 1, Scenes: []api.BranchScene{}, Rules: smallStory().Rules}, {Episodes: 1, Scenes: smallStory().Scenes, Rules: []api.BranchRule{}}} {
		if e := branch.Check(s); e != api.ErrArg {
			t.Error(i, e)
		}
	}
}

// roomy returns a list with room behind it, in which there is something.
func roomy(list []int) []int { return append(slices.Clone(list), 7, 7, 7)[:len(list)] }

func roomyStory(s api.BranchStory) api.BranchStory {
	return with(s, func(s *api.BranchStory) {
		s.Scenes = append(s.Scenes, scene(7, 7, 7), scene(7, 7, 7))[:len(s.Scenes)]
		for n := range s.Rules {
			s.Rules[n].To = roomy(s.Rules[n].To)
		}
		s.Rules = append(s.Rules, rule(7, 7), rule(7, 7))[:len(s.Rules)]
	})
}

// behind returns all lists of a story with what is behind them.
func behind(s api.BranchStory) string {
	text := fmt.Sprint(s.Scenes[:cap(s.Scenes)])
	for _, r := range s.Rules[:cap(s.Rules)] {
		text += fmt.Sprint(r.From, r.To[:cap(r.To)], " ")
	}
	return text
}

// wipe sets all numbers of a result to zero, also those behind its lists.
func wipe(v reflect.Value) {
	switch v.Kind() {
	case reflect.Interface:
		wipe(v.Elem())
	case reflect.Slice:
		v = v.Slice(0, v.Cap())
		for n := range v.Len() {
			if item := v.Index(n); item.Kind() == reflect.Slice || item.Kind() == reflect.Interface || item.Kind() == reflect.Struct {
				wipe(item)
			} else {
				item.SetZero()
			}
		}
	case reflect.Struct:
		for n := range v.NumField() {
			wipe(v.Field(n))
		}
	}
}

// No argument is changed, results share no memory, and two calls have equal results (R4, R8).
func TestMemory(t *testing.T) {
	for i, given := range []api.BranchStory{storyS(), doubleStory(), fullStory(), prefixStory()} {
		s, n := roomyStory(given), nightN()
		if i > 0 {
			n = evening(0, sp(1, 9), sp(1, 9), sp(1, 9))
		}
		before := behind(s)
		plays, _ := branch.Plays(s)
		play, seen := roomy(plays[0]), roomy(slices.Repeat(l(-1), len(plays[0])))
		first, second := calls(s, n, play, seen), calls(s, n, play, seen)
		want := fmt.Sprint(second)
		if fmt.Sprint(first) != want {
			t.Error(i, first, second)
		}
		none := []string{"Check", "Follows", "Losses"}
		for name, y := range first {
			if y[len(y)-1] != api.OK || !slices.Contains(none, name) && isZero(y[0]) {
				t.Error(i, name, y)
			}
			wipe(reflect.ValueOf(y))
		}
		if fmt.Sprint(second) != want || fmt.Sprint(calls(s, n, play, seen)) != want {
			t.Error(i, "results share memory", second)
		}
		if !sameStory(s, given) || behind(s) != before {
			t.Error(i, "a story was changed", s)
		}
		for _, list := range ll(play, seen) {
			if !slices.Equal(list[len(list):len(list)+3], l(7, 7, 7)) {
				t.Error(i, "an argument was changed", list)
			}
		}
		if !slices.Equal(play, plays[0]) || slices.Max(seen) != -1 {
			t.Error(i, "an argument was changed", play, seen)
		}
	}
}

// No two lists of one result share memory (R4).
func TestListsApart(t *testing.T) {
	for i, s := range []api.BranchStory{storyS(), doubleStory(), fullStory(), prefixStory()} {
		text, _ := branch.Print(s)
		read, e := branch.Read(text)
		again := copyOf(read)
		for n := range read.Rules {
			wipe(reflect.ValueOf(read.Rules[n].To))
			read.Rules[n].To = again.Rules[n].To
			if !sameStory(read, s) || e != api.OK {
				t.Error(i, n, read, e)
			}
		}
		plays, _ := branch.Plays(s)
		agreeing, _ := branch.Agrees(s, slices.Repeat(l(-1), len(plays[0])))
		for _, lists := range [][][]int{plays, agreeing} {
			want := fmt.Sprint(lists[1:])
			wipe(reflect.ValueOf(lists[0]))
			if fmt.Sprint(lists[1:]) != want {
				t.Error(i, lists)
			}
		}
	}
	play, choice, lengths, _ := branch.Evening(storyS(), nightN())
	wipe(reflect.ValueOf(play))
	if !slices.Equal(choice, l(0, 1, 2, 4)) || !slices.Equal(lengths, l(40, 20, 60, 60)) {
		t.Error(choice, lengths)
	}
}

// P0.1: arguments of any kind have a result, which is an error or as defined.
func TestAnyArguments(t *testing.T) {
	g := random(44)
	seen := met{}
	for range 20000 {
		s, n := anyStory(g), anyNight(g)
		play, remembered := anyList(g), anyList(g)
		all := calls(s, n, play, remembered)
		good := all["Check"][0]
		for name, y := range all {
			e := y[len(y)-1].(api.Errno)
			seen.note(name, " ", e)
			if good == api.ErrArg && e != api.ErrArg || good == api.OK && e != api.OK && e != api.ErrArg && e != api.ErrNone {
				t.Fatal(s, n, play, remembered, name, y)
			}
			if e != api.OK {
				mustFail(t, y, e, s, n, play, remembered, name)
			}
		}
	}
	for name := range calls(storyS(), nightN(), nil, nil) {
		seen.atLeast(t, 100, name+" 0", name+" 2")
	}
	seen.atLeast(t, 100, "Rules 5", "Surely 5", "Evening 5", "Begins 5", "Common 5", "Needs 5", "Losses 5")
}

func anyNumber(g *rand.Rand) int {
	numbers := l(math.MinInt, -1, 0, 0, 1, 1, 2, 3, 4, 5, 6, 7, 8, 30, 900, math.MaxInt)
	return numbers[g.IntN(len(numbers))]
}

func anyList(g *rand.Rand) []int {
	var out []int
	for range max(0, g.IntN(14)-2) {
		n := g.IntN(3)
		if g.IntN(20) == 0 {
			n = anyNumber(g)
		}
		out = append(out, n)
	}
	return out
}

func anyStory(g *rand.Rand) api.BranchStory {
	s := wildStory(g)
	if g.IntN(2) == 0 {
		return s
	}
	for range g.IntN(3) {
		switch n := anyNumber(g); g.IntN(8) {
		case 0:
			s.Episodes = n
		case 1:
			s.Scenes[g.IntN(len(s.Scenes))].Part = n
		case 2:
			s.Scenes[g.IntN(len(s.Scenes))].Least = n
		case 3:
			s.Scenes[g.IntN(len(s.Scenes))].Most = n
		case 4:
			s.Rules[g.IntN(len(s.Rules))].From = n
		case 5:
			s.Rules[g.IntN(len(s.Rules))].To[0] = n
		case 6:
			s.Rules[g.IntN(len(s.Rules))].To = anyList(g)
		case 7:
			s.Rules = slices.Repeat(s.Rules, g.IntN(3))
			return s
		}
		if slices.ContainsFunc(s.Rules, func(r api.BranchRule) bool { return len(r.To) == 0 }) {
			return s
		}
	}
	return s
}

func anyNight(g *rand.Rand) api.BranchEvening {
	n := evening(g.IntN(5), sp(2, 20), sp(9, 30), sp(15, 40))
	if g.IntN(2) == 0 {
		return n
	}
	switch k := anyNumber(g); g.IntN(6) {
	case 0:
		n.Begin = k
	case 1:
		n.Stars[0].Low = k
	case 2:
		n.Stars[0].High = k
	case 3:
		n.Stars[1].Low = k
	case 4:
		n.Dawn.High = k
	case 5:
		n.Dawn = sp(k, anyNumber(g))
	}
	return n
}

// P0.1: the longest searches end, also where no rules lead to scenes, however many can be taken.
func TestGreatest(t *testing.T) {
	night := evening(0, sp(0, 30), sp(0, 30), sp(0, 30))
	full := with(fullStory(), func(s *api.BranchStory) { s.Scenes = scenes(scene(1, 1, 240), scene(1, 2, 240)) })
	if y, e := branch.Verdicts(full, night); e != api.OK || len(y) != 15 || slices.ContainsFunc(y, func(v api.BranchVerdict) bool { return v != fits }) {
		t.Error(y, e)
	}
	if y, e := branch.Needs(full, night); e != api.OK || !slices.Equal(y, l(0, 4)) {
		t.Error(y, e)
	}
	if y, e := branch.Losses(full, night); e != api.OK || len(y) > 0 {
		t.Error(y, e)
	}
	for i, s := range goodStories() {
		plays, e := branch.Plays(s)
		if e != api.OK || len(plays) > 40 {
			t.Error(i, plays, e)
		}
		for _, play := range plays {
			if len(play) < 1 || len(play) > 10 {
				t.Error(i, play)
			}
		}
	}
}
