package branch_test

import (
	"slices"
	"testing"

	"kelir/api"
	"kelir/branch"
)

const (
	never  = api.BranchNever
	may    = api.BranchMay
	surely = api.BranchSurely
)

func words(w ...api.BranchWord) []api.BranchWord { return w }

func sixPlays() [][]int {
	return ll(l(0, 1, 2, 3, 4), l(0, 1, 2, 4), l(0, 1, 3, 4), l(0, 2, 3, 4), l(0, 2, 4), l(0, 3, 4))
}

// P9.1.
func TestCheck(t *testing.T) {
	for i, s := range goodStories() {
		if e := branch.Check(s); e != api.OK {
			t.Error(i, e)
		}
	}
	for i, s := range badStories() {
		if e := branch.Check(s); e != api.ErrArg {
			t.Error(i, e)
		}
	}
	if all := slowDerivations(fullStory()); len(all) != 40 || !slices.ContainsFunc(all, func(d derivation) bool { return len(d.play) == 10 }) {
		t.Error(len(all))
	}
}

// P9.1: stories with no derivation, few of them, or far too many.
func TestCheckIsDefined(t *testing.T) {
	g := random(1)
	some := met{}
	for range 20000 {
		s := wildStory(g)
		if g.IntN(4) == 0 {
			breakStory(&s, g.IntN(12), g.IntN(3)-1)
		}
		want := api.ErrArg
		if slowGood(s) {
			want = api.OK
		}
		if e := branch.Check(s); e != want {
			t.Fatal(s, e)
		}
		some.note(want)
	}
	some.atLeast(t, 2000, "0", "2")
}

// breakStory changes one thing of a story, which often is not as defined then.
func breakStory(s *api.BranchStory, thing, by int) {
	last := len(s.Rules) - 1
	switch thing {
	case 0:
		s.Episodes += by
	case 1:
		s.Scenes = slices.Repeat(s.Scenes, 2+by)
	case 2:
		s.Rules = slices.Repeat(s.Rules, 2+by)
	case 3:
		s.Scenes[0].Part += 2 * by
	case 4:
		s.Scenes[0].Least += 3 * by
	case 5:
		s.Scenes[0].Most += 240*by + 1
	case 6:
		s.Rules[last].From += by
	case 7:
		s.Rules[last].To[0] += by
	case 8:
		s.Rules[0].To = s.Rules[0].To[:min(1+by, len(s.Rules[0].To))]
	case 9:
		s.Rules[0].To = slices.Repeat(s.Rules[0].To, 3+by)
	case 10:
		s.Rules[last].To[len(s.Rules[last].To)-1] = s.Episodes + len(s.Scenes) + by
	case 11:
		s.Rules[last].To[0] = s.Rules[last].From + by
	}
}

// P9.1, P9.2: the chapter's examples, and stories with plays that begin with each other, or have several derivations, or that have none.
func TestPlaysAndSurely(t *testing.T) {
	for i, x := range []struct {
		s     api.BranchStory
		plays [][]int
		words []api.BranchWord
		e     api.Errno
	}{
		{storyS(), sixPlays(), words(surely, may, may, may, surely), api.OK}, {storyT(), sixPlays(), words(surely, may, may, may, surely), api.OK},
		{smallStory(), ll(l(0)), words(surely), api.OK}, {deadStory(), nil, nil, api.ErrNone}, {longestStory(), nil, nil, api.ErrNone},
		{prefixStory(), ll(l(0), l(0, 0), l(0, 0, 1), l(0, 1), l(1)), words(may, may), api.OK},
		{doubleStory(), ll(l(0, 0), l(0, 1), l(1, 0), l(1, 1)), words(may, may), api.OK},
		{plain(1, 3, rule(0, 3), rule(0, 1), rule(0, 3)), ll(l(0), l(2)), words(may, never, may), api.OK},
		{plain(1, 3, rule(0, 3, 3, 2, 3)), ll(l(2, 2, 1, 2)), words(never, surely, surely), api.OK},
		{plain(1, 8, rule(0, 8), rule(0, 1)), ll(l(0), l(7)), words(may, never, never, never, never, never, never, may), api.OK},
		// the first episode is the one in front, and nothing is taken for one that has no rules
		{plain(3, 2, rule(0, 2, 1), rule(0, 4, 1), rule(1, 3, 3)), ll(l(1, 0, 0)), words(surely, surely), api.OK},
		{plain(6, 1, rule(0, 1), rule(1, 2), rule(2, 3), rule(3, 4), rule(4, 5), rule(5, 6)), ll(l(0)), words(surely), api.OK},
		{plain(6, 2, rule(0, 5, 1, 1, 1), rule(1, 2, 2, 2, 2), rule(2, 3, 3, 3, 3), rule(3, 4, 4, 4, 4), rule(4, 6), rule(4, 6), rule(0, 7)), ll(l(1)), words(never, surely), api.OK},
		{plain(6, 2, rule(0, 1, 1, 1, 5), rule(1, 2, 2, 2, 2), rule(2, 3, 3, 3, 3), rule(3, 4, 4, 4, 4), rule(4, 6), rule(4, 6), rule(0, 7)), ll(l(1)), words(never, surely), api.OK},
	} {
		if y, e := branch.Plays(x.s); e != api.OK || !sameLists(y, x.plays) {
			t.Error(i, y, e)
		}
		if y, e := branch.Surely(x.s); e != x.e || !slices.Equal(y, x.words) {
			t.Error(i, y, e)
		}
	}
}

// P9.2: the chapter's examples, and plays with several derivations.
func TestWaysAndRules(t *testing.T) {
	for i, x := range []struct {
		s     api.BranchStory
		play  []int
		ways  int
		rules []int
	}{
		{storyS(), l(0, 2, 4), 1, l(0, 2, 3)}, {storyS(), l(0, 1, 2, 4), 1, l(0, 1, 3)}, {storyS(), l(0, 1, 2, 3, 4), 1, l(0, 1, 4)}, {storyS(), l(0, 4), 0, nil}, {storyS(), nil, 0, nil}, {storyS(), l(0, 2), 0, nil}, {storyS(), l(0, 2, 4, 4), 0, nil}, {storyS(), slices.Repeat(l(0), 10), 0, nil}, {storyS(), l(4, 2, 0), 0, nil},
		{withRules(storyS(), rule(1, 5)), l(0, 2, 4), 2, l(0, 2, 3)}, {withRules(storyS(), rule(0, 3, 5, 7)), l(0, 2, 4), 2, l(0, 2, 3)}, {smallStory(), l(0), 1, l(0)}, {deadStory(), l(0), 0, nil}, {deadStory(), l(0, 0), 0, nil},
		{doubleStory(), l(0, 0), 3, l(1, 4, 5)}, {doubleStory(), l(1, 0), 4, l(1, 0, 5)}, {doubleStory(), l(0, 1), 1, l(2, 4, 0)}, {doubleStory(), l(1, 1), 1, l(2, 0, 0)},
		{fullStory(), l(1, 1, 1), 8, l(0, 5, 5, 5)}, {fullStory(), l(0, 1, 1), 4, l(0, 4, 5, 5)}, {fullStory(), l(0, 0, 0, 1, 0, 0, 0, 1, 0, 0), 1, l(3, 7, 7)}, {fullStory(), l(1), 2, l(2, 5)},
		// a derivation may be longer than the play
		{plain(6, 1, rule(5, 6), rule(4, 5), rule(3, 4), rule(2, 3), rule(1, 2), rule(0, 1, 1)), l(0, 0), 1, l(5, 4, 3, 2, 1, 0, 4, 3, 2, 1, 0)},
		{plain(1, 1, rule(0, 1), rule(0, 1), rule(0, 1, 1)), l(0), 2, l(0)},
	} {
		want := api.OK
		if x.ways == 0 {
			want = api.ErrNone
		}
		if y, e := branch.Ways(x.s, x.play); e != api.OK || y != x.ways {
			t.Error(i, y, e)
		}
		if y, e := branch.Rules(x.s, x.play); e != want || !slices.Equal(y, x.rules) {
			t.Error(i, y, e)
		}
	}
	for i, play := range badPlays() {
		if y, e := branch.Ways(storyS(), play); e != api.ErrArg || y != 0 {
			t.Error(i, y, e)
		}
		if y, e := branch.Rules(storyS(), play); e != api.ErrArg || len(y) > 0 {
			t.Error(i, y, e)
		}
	}
}

// P9.1, P9.2, P0.9: generated stories.
func TestPlaysAreDefined(t *testing.T) {
	g := random(2)
	some := met{}
	for range 1500 {
		s := randomStory(g)
		all, plays := slowDerivations(s), slowPlays(s)
		if y, e := branch.Plays(s); e != api.OK || !sameLists(y, plays) {
			t.Fatal(s, y, plays, e)
		}
		y, e := branch.Surely(s)
		if len(plays) == 0 {
			some.note("none")
			if e != api.ErrNone || len(y) > 0 {
				t.Fatal(s, y, e)
			}
		} else if e != api.OK || !slices.Equal(y, slowWords(s, plays)) {
			t.Fatal(s, y, e)
		}
		some.note("twice ", len(plays) < len(all))
		some.note("many ", len(all) > 20)
		for _, play := range plays {
			checkWays(t, s, all, play)
			some.note("long ", len(play) == 10)
		}
		for range 5 {
			checkWays(t, s, all, otherPlay(g, s, plays))
		}
	}
	some.atLeast(t, 20, "none", "twice true", "twice false", "many true", "many false", "long true", "long false")
}

// checkWays compares the derivations of a play with all of a story, in order.
func checkWays(t *testing.T, s api.BranchStory, all []derivation, play []int) {
	t.Helper()
	var first []int
	ways := 0
	for _, d := range all {
		if slices.Equal(d.play, play) {
			if ways == 0 {
				first = d.rules
			}
			ways++
		}
	}
	want := api.OK
	if ways == 0 {
		want = api.ErrNone
	}
	if y, e := branch.Ways(s, play); e != api.OK || y != ways {
		t.Fatal(s, play, y, ways, e)
	}
	y, e := branch.Rules(s, play)
	if e != want || !slices.Equal(y, first) {
		t.Fatal(s, play, y, first, e)
	}
	if out, done := take(s, y); e == api.OK && (!done || !slices.Equal(out, play)) {
		t.Fatal(s, play, y, out)
	}
}

// take takes rules one after the other, and returns the play that comes out, if it is one.
func take(s api.BranchStory, rules []int) ([]int, bool) {
	list := l(0)
	isEpisode := func(motif int) bool { return motif < s.Episodes }
	for _, n := range rules {
		first := slices.IndexFunc(list, isEpisode)
		if first < 0 || s.Rules[n].From != list[first] {
			return nil, false
		}
		list = slices.Replace(list, first, first+1, s.Rules[n].To...)
	}
	for n := range list {
		list[n] -= s.Episodes
	}
	return list, !slices.ContainsFunc(list, func(k int) bool { return k < 0 })
}

// otherPlay returns a list of scenes that is like a play, and often is none.
func otherPlay(g interface{ IntN(int) int }, s api.BranchStory, plays [][]int) []int {
	var play []int
	if len(plays) > 0 && g.IntN(4) > 0 {
		play = slices.Clone(plays[g.IntN(len(plays))])
		play = play[:g.IntN(len(play)+1)]
	}
	for g.IntN(2) == 0 && len(play) < 10 {
		play = append(play, g.IntN(len(s.Scenes)))
	}
	return play
}

// P9.1: whatever rules somebody takes, one after the other, the play that comes out is one.
func TestWhateverRulesAreTaken(t *testing.T) {
	g := random(3)
	some := met{}
	for range 600 {
		s := randomStory(g)
		plays, _ := branch.Plays(s)
		for range 10 {
			var rules []int
			list := l(0)
			for {
				first := slices.IndexFunc(list, func(motif int) bool { return motif < s.Episodes })
				var can []int
				for n, r := range s.Rules {
					if first >= 0 && r.From == list[first] {
						can = append(can, n)
					}
				}
				if len(can) == 0 {
					break
				}
				n := can[g.IntN(len(can))]
				rules = append(rules, n)
				list = slices.Replace(list, first, first+1, s.Rules[n].To...)
			}
			play, done := take(s, rules)
			some.note("done ", done)
			if !done {
				continue
			}
			if !slices.ContainsFunc(plays, func(other []int) bool { return slices.Equal(other, play) }) {
				t.Fatal(s, rules, play)
			}
			if ways, e := branch.Ways(s, play); e != api.OK || ways < 1 {
				t.Fatal(s, rules, play, ways, e)
			}
			if first, e := branch.Rules(s, play); e != api.OK || slices.Compare(first, rules) > 0 {
				t.Fatal(s, rules, play, first, e)
			}
		}
	}
	some.atLeast(t, 200, "done true", "done false")
}

// P9.3: the chapter's examples, beginnings of no play, and plays that begin with each other.
func TestFollows(t *testing.T) {
	for i, x := range []struct {
		s           api.BranchStory
		begin, want []int
	}{
		{storyS(), l(0, 1), l(2, 3)}, {storyS(), l(0, 1, 2, 4), nil}, {storyS(), nil, l(0)}, {storyS(), l(), l(0)}, {storyS(), l(0), l(1, 2, 3)}, {storyS(), l(0, 2), l(3, 4)}, {storyS(), l(0, 1, 2, 3), l(4)}, {storyS(), l(1), nil}, {storyS(), l(0, 4), nil}, {storyS(), slices.Repeat(l(0), 10), nil},
		{deadStory(), nil, nil}, {deadStory(), l(0), nil}, {prefixStory(), nil, l(0, 1)}, {prefixStory(), l(0), l(0, 1)}, {prefixStory(), l(0, 0), l(1)}, {prefixStory(), l(0, 1), nil}, {prefixStory(), l(1), nil},
		{fullStory(), l(0, 0, 0, 1, 0, 0, 0, 1, 0), l(0)}, {fullStory(), l(0, 0, 0, 1, 0, 0, 0, 1, 0, 0), nil},
		// one scene behind several plays, and in the order of scenes, not of rules
		{plain(1, 3, rule(0, 1, 3, 2), rule(0, 1, 2, 1), rule(0, 1, 3, 1), rule(0, 2)), l(0), l(1, 2)},
	} {
		if y, e := branch.Follows(x.s, x.begin); e != api.OK || !slices.Equal(y, x.want) {
			t.Error(i, y, e)
		}
	}
	for i, begin := range badPlays() {
		if y, e := branch.Follows(storyS(), begin); e != api.ErrArg || len(y) > 0 {
			t.Error(i, y, e)
		}
	}
}

// P9.3: the chapter's examples, and lists with which no play agrees.
func TestAgrees(t *testing.T) {
	for i, x := range []struct {
		s    api.BranchStory
		seen []int
		want [][]int
	}{
		{storyS(), l(0, -1, 4), ll(l(0, 2, 4), l(0, 3, 4))}, {storyS(), l(-1, -1, -1, -1), ll(l(0, 1, 2, 4), l(0, 1, 3, 4), l(0, 2, 3, 4))}, {storyS(), l(-1, 1, 3, -1), ll(l(0, 1, 3, 4))}, {storyS(), l(0, 1, 2, 3, 4), ll(l(0, 1, 2, 3, 4))}, {storyS(), l(-1, -1, 2, -1), ll(l(0, 1, 2, 4))}, {storyS(), l(-1, -1, -1, 4), ll(l(0, 1, 2, 4), l(0, 1, 3, 4), l(0, 2, 3, 4))},
		{storyS(), l(-1, -1), nil}, {storyS(), nil, nil}, {storyS(), l(), nil}, {storyS(), l(4, -1, -1), nil}, {storyS(), l(-1, -1, 2), nil}, {storyS(), slices.Repeat(l(-1), 10), nil}, {storyS(), slices.Repeat(l(4), 10), nil}, {deadStory(), l(-1), nil},
		{prefixStory(), l(-1), ll(l(0), l(1))}, {prefixStory(), l(0, -1), ll(l(0, 0), l(0, 1))}, {prefixStory(), l(0), ll(l(0))}, {fullStory(), slices.Repeat(l(-1), 10), ll(l(0, 0, 0, 1, 0, 0, 0, 1, 0, 0))},
	} {
		if y, e := branch.Agrees(x.s, x.seen); e != api.OK || !sameLists(y, x.want) {
			t.Error(i, y, e)
		}
	}
	for i, seen := range badSeen() {
		if y, e := branch.Agrees(storyS(), seen); e != api.ErrArg || len(y) > 0 {
			t.Error(i, y, e)
		}
	}
}

// P9.3: generated stories; whatever scenes of a play are forgotten, it is among those that agree.
func TestMemoryIsDefined(t *testing.T) {
	g := random(4)
	some := met{}
	for range 1000 {
		s := randomStory(g)
		plays := slowPlays(s)
		for range 8 {
			begin := otherPlay(g, s, plays)
			var want []int
			for k := range s.Scenes {
				if slices.ContainsFunc(plays, func(play []int) bool {
					return len(play) > len(begin) && slices.Equal(play[:len(begin)], begin) && play[len(begin)] == k
				}) {
					want = append(want, k)
				}
			}
			some.note("follow ", min(len(want), 3))
			if y, e := branch.Follows(s, begin); e != api.OK || !slices.Equal(y, want) {
				t.Fatal(s, begin, y, want, e)
			}
			checkAgrees(t, s, plays, forget(g, begin), some)
		}
		for _, play := range plays {
			seen := forget(g, play)
			checkAgrees(t, s, plays, seen, some)
			if y, _ := branch.Agrees(s, seen); !slices.ContainsFunc(y, func(other []int) bool { return slices.Equal(other, play) }) {
				t.Fatal(s, play, seen, y)
			}
		}
	}
	some.atLeast(t, 100, "follow 0", "follow 1", "follow 2", "follow 3", "agree 0", "agree 1", "agree 2", "agree 3")
}

func checkAgrees(t *testing.T, s api.BranchStory, plays [][]int, seen []int, some met) {
	t.Helper()
	var want [][]int
	for _, play := range plays {
		agrees := len(play) == len(seen)
		for n := 0; agrees && n < len(seen); n++ {
			agrees = seen[n] == -1 || seen[n] == play[n]
		}
		if agrees {
			want = append(want, play)
		}
	}
	some.note("agree ", min(len(want), 3))
	if y, e := branch.Agrees(s, seen); e != api.OK || !sameLists(y, want) {
		t.Fatal(s, seen, y, want, e)
	}
}

// forget returns a play of which some scenes are forgotten.
func forget(g interface{ IntN(int) int }, play []int) []int {
	seen := slices.Clone(play)
	most := g.IntN(5)
	for n := range seen {
		if g.IntN(4) < most {
			seen[n] = -1
		}
	}
	return seen
}
