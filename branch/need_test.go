package branch_test

import (
	"slices"
	"testing"

	"kelir/api"
	"kelir/branch"
)

// P9.7: the chapter's examples, plays with several derivations, and rules that are taken more than once.
func TestNeedsAndLosses(t *testing.T) {
	one := evening(0, sp(1, 1), sp(1, 1), sp(1, 1))
	two := evening(0, sp(2, 2), sp(2, 2), sp(2, 2))
	more := withRules(storyS(), rule(1, 5))
	for i, x := range []struct {
		s             api.BranchStory
		n             api.BranchEvening
		needs, losses []int
		e             api.Errno
	}{
		{storyS(), nightN(), l(0, 1, 3), l(0, 1), api.OK}, {storyT(), nightN(), l(0, 1, 3), l(0, 1), api.OK}, {storyS(), nightM(), nil, nil, api.ErrNone}, {deadStory(), nightN(), nil, nil, api.ErrNone}, {smallStory(), nightN(), nil, nil, api.ErrNone}, {smallStory(), one, l(0), l(0), api.OK},
		{storyS(), beginning(nightN(), 30), l(0, 1, 3), l(0), api.OK}, {more, beginning(nightN(), 30), l(0, 6), l(0), api.OK}, {more, nightN(), l(0, 1, 3), l(0, 1), api.OK},
		// each of two rules is enough, so none is lost
		{plain(1, 2, rule(0, 2), rule(0, 1)), one, l(0), nil, api.OK}, {plain(1, 2, rule(0, 1), rule(0, 1)), one, l(0), nil, api.OK}, {plain(1, 2, rule(0, 1, 1), rule(0, 2)), one, l(1), l(1), api.OK},
		// a rule that is taken twice is one, wherever it is taken
		{plain(2, 2, rule(0, 1, 1), rule(1, 2), rule(1, 3)), two, l(0, 1), l(0), api.OK}, {plain(2, 2, rule(1, 3), rule(0, 1, 1)), two, l(0, 1), l(0, 1), api.OK},
		{plain(3, 1, rule(2, 3), rule(0, 1, 2), rule(1, 2), rule(1, 3), rule(2, 3)), two, l(0, 1, 2), l(1), api.OK},
		// fewer rules come first, whatever their numbers; of as many, the first list in order, not the first derivation
		{plain(3, 1, rule(0, 1), rule(1, 2), rule(2, 3), rule(0, 3)), one, l(3), nil, api.OK},
		{plain(3, 1, rule(2, 3), rule(0, 1), rule(1, 3), rule(0, 2)), one, l(0, 3), nil, api.OK},
		{plain(3, 1, rule(0, 1), rule(0, 2), rule(2, 3), rule(1, 3)), one, l(0, 3), nil, api.OK},
		// the first play that fits may need more rules than another one
		{plain(2, 2, rule(0, 1), rule(1, 2), rule(0, 3)), one, l(2), nil, api.OK},
		{story(2, scenes(formula(scene(0, 1, 1)), scene(0, 1, 1)), rule(0, 3), rule(0, 1), rule(1, 3), rule(1, 2)), one, l(1, 3), l(1, 3), api.OK},
	} {
		if y, e := branch.Needs(x.s, x.n); e != x.e || !slices.Equal(y, x.needs) {
			t.Error(i, y, e)
		}
		if y, e := branch.Losses(x.s, x.n); e != x.e || !slices.Equal(y, x.losses) {
			t.Error(i, y, e)
		}
	}
}

// canFit reports whether some play of a story fits a night; known is what is known of the verdicts of plays.
func canFit(s api.BranchStory, n api.BranchEvening, known map[[10]int]bool) bool {
	for _, d := range slowDerivations(s) {
		key := [10]int{}
		for n, k := range d.play {
			key[n] = k + 1
		}
		if _, is := known[key]; !is {
			known[key] = slowVerdict(s, n, d.play) == api.BranchFits
		}
		if known[key] {
			return true
		}
	}
	return false
}

// P9.7: generated stories and nights, against all lists of rules; no fewer rules are enough.
func TestNeedsAreDefined(t *testing.T) {
	g := random(21)
	some := met{}
	for range 400 {
		s := randomStory(g)
		n := randomNight(g, s)
		known := map[[10]int]bool{}
		var needs, losses []int
		for _, rules := range allGroups(len(s.Rules)) {
			if needs == nil && canFit(onlyRules(s, rules), n, known) {
				needs = rules
			}
			if missing := without(s, rules); len(missing) == 1 && !canFit(onlyRules(s, rules), n, known) {
				losses = append(losses, missing[0])
			}
		}
		slices.Sort(losses)
		y, e := branch.Needs(s, n)
		z, f := branch.Losses(s, n)
		if needs == nil {
			some.note("none")
			if e != api.ErrNone || f != api.ErrNone || len(y)+len(z) > 0 {
				t.Fatal(s, n, y, z, e, f)
			}
			continue
		}
		if e != api.OK || !slices.Equal(y, needs) {
			t.Fatal(s, n, y, needs, e)
		}
		if f != api.OK || !slices.Equal(z, losses) {
			t.Fatal(s, n, z, losses, f)
		}
		some.note("needs ", min(len(y), 4))
		some.note("losses ", min(len(z), 4))
		some.note("as many ", len(y) == len(z))
		checkOnly(t, s, n, y, z)
	}
	some.atLeast(t, 10, "none", "needs 1", "needs 2", "needs 3", "needs 4", "losses 0", "losses 1", "losses 2", "losses 3", "as many true", "as many false")
}

// without returns the rules of a story that are not in a list.
func without(s api.BranchStory, rules []int) []int {
	var out []int
	for n := range s.Rules {
		if !slices.Contains(rules, n) {
			out = append(out, n)
		}
	}
	return out
}

// checkOnly asks for a play that fits with the rules that are needed alone, with each of these left out, and without each one of all rules.
func checkOnly(t *testing.T, s api.BranchStory, n api.BranchEvening, needs, losses []int) {
	t.Helper()
	if _, _, _, e := branch.Evening(onlyRules(s, needs), n); e != api.OK {
		t.Fatal(s, n, needs, e)
	}
	for i := range needs {
		fewer := slices.Delete(slices.Clone(needs), i, i+1)
		if _, _, _, e := branch.Evening(onlyRules(s, fewer), n); e == api.OK {
			t.Fatal(s, n, needs, fewer)
		}
	}
	for i := range s.Rules {
		rest := without(s, l(i))
		if _, _, _, e := branch.Evening(onlyRules(s, rest), n); len(rest) > 0 && (e == api.OK) == slices.Contains(losses, i) {
			t.Fatal(s, n, i, losses, e)
		}
	}
}
