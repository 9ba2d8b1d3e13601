package version_test

import (
	"cmp"
	"slices"
	"testing"

	"kelir/api"
	"kelir/version"
)

const keep, change, add, drop = int(api.VersionKeep), int(api.VersionChange), int(api.VersionAdd), int(api.VersionDrop)

// steps returns steps with a kind and a word, one after the other.
func steps(n ...int) []api.VersionStep {
	var out []api.VersionStep
	for i := 0; i < len(n); i += 2 {
		out = append(out, api.VersionStep{Kind: api.VersionKind(n[i]), Word: n[i+1]})
	}
	return out
}

func changesOf(steps []api.VersionStep) int {
	count := 0
	for _, s := range steps {
		if s.Kind != api.VersionKeep {
			count++
		}
	}
	return count
}

// P6.1: books that are as defined, and others.
func TestCheck(t *testing.T) {
	for i, b := range []api.VersionBook{bookB(), smallBook(), longestBook(), lostBook(), single(1, lost()), single(1, written()), single(1, api.VersionLine{Words: l()}), single(1, api.VersionLine{Lost: true, Words: l()}), evenBook(2, 5, 1, written(1, 1, 1, 1)), evenBook(1, 1, 4, written(0)), with(bookB(), func(b *api.VersionBook) { b.Copies = append(b.Copies, b.Copies[0]) })} {
		if e := version.Check(b); e != api.OK {
			t.Error(i, e)
		}
	}
	for i, b := range badBooks() {
		if e := version.Check(b); e != api.ErrArg {
			t.Error(i, e)
		}
	}
}

// P6.1: changes between lines, and the first steps that have no more.
func TestChangesAndSteps(t *testing.T) {
	for i, x := range []struct {
		one, other []int
		n          int
		steps      []api.VersionStep
	}{
		{l(0, 1, 2), l(0, 2), 1, steps(keep, 0, drop, 1, keep, 2)}, {l(0, 2), l(0, 1, 1, 2), 2, steps(keep, 0, add, 1, add, 1, keep, 2)}, {l(0, 1), l(1, 0), 2, steps(change, 1, change, 0)}, {l(1, 1), l(1, 2), 1, steps(keep, 1, change, 2)},
		{nil, nil, 0, nil}, {nil, l(2), 1, steps(add, 2)}, {l(2), nil, 1, steps(drop, 2)}, {l(0, 1, 2, 0), nil, 4, steps(drop, 0, drop, 1, drop, 2, drop, 0)}, {nil, l(0, 1, 2, 0), 4, steps(add, 0, add, 1, add, 2, add, 0)}, {l(0, 1, 2, 0), l(0, 1, 2, 0), 0, steps(keep, 0, keep, 1, keep, 2, keep, 0)}, {l(0, 0, 0, 0), l(1, 1, 1, 1), 4, steps(change, 1, change, 1, change, 1, change, 1)},
		// what can be kept first is kept, and what can be changed first is changed
		{l(0, 0, 0), l(0), 2, steps(keep, 0, drop, 0, drop, 0)}, {l(0), l(0, 0, 0), 2, steps(keep, 0, add, 0, add, 0)}, {l(0), l(1, 2), 2, steps(change, 1, add, 2)}, {l(1, 2), l(0), 2, steps(change, 0, drop, 2)}, {l(0, 1), l(1), 1, steps(drop, 0, keep, 1)}, {l(1), l(0, 1), 1, steps(add, 0, keep, 1)},
		// to add first, or to drop first, takes as many changes
		{l(0, 1, 2), l(1, 0, 2), 2, steps(change, 1, change, 0, keep, 2)}, {l(0, 1, 0), l(1, 0, 1), 2, steps(add, 1, keep, 0, keep, 1, drop, 0)}, {l(1, 0, 1), l(0, 1, 0), 2, steps(add, 0, keep, 1, keep, 0, drop, 1)},
		// to keep the first word would take more changes
		{l(0, 0, 1, 2), l(0, 1, 2), 1, steps(keep, 0, drop, 0, keep, 1, keep, 2)}, {l(1, 2, 0), l(0, 1, 2), 2, steps(add, 0, keep, 1, keep, 2, drop, 0)}, {l(0, 1, 2, 0), l(1, 2, 0, 1), 2, steps(drop, 0, keep, 1, keep, 2, keep, 0, add, 1)},
	} {
		if n, e := version.Changes(bookB(), x.one, x.other); e != api.OK || n != x.n {
			t.Error(i, n, e)
		}
		if y, e := version.Steps(bookB(), x.one, x.other); e != api.OK || !slices.Equal(y, x.steps) {
			t.Error(i, y, e)
		}
	}
}

// slowSteps returns all steps from one line to another one that go through both.
func slowSteps(one, other []int) [][]api.VersionStep {
	if len(one) == 0 && len(other) == 0 {
		return [][]api.VersionStep{nil}
	}
	var out [][]api.VersionStep
	first := func(kind, word int, rest [][]api.VersionStep) {
		for _, s := range rest {
			out = append(out, append(steps(kind, word), s...))
		}
	}
	if len(one) > 0 && len(other) > 0 {
		kind := change
		if one[0] == other[0] {
			kind = keep
		}
		first(kind, other[0], slowSteps(one[1:], other[1:]))
	}
	if len(one) > 0 {
		first(drop, one[0], slowSteps(one[1:], other))
	}
	if len(other) > 0 {
		first(add, other[0], slowSteps(one, other[1:]))
	}
	return out
}

func orderOfSteps(a, b []api.VersionStep) int {
	return slices.CompareFunc(a, b, func(x, y api.VersionStep) int {
		return cmp.Or(int(x.Kind-y.Kind), x.Word-y.Word)
	})
}

// P6.1: all pairs of lines, and all steps that somebody may propose.
func TestChangesAndStepsOfAll(t *testing.T) {
	for words := 1; words <= 3; words++ {
		b := single(words, lost())
		s := slowOf(words)
		for i, one := range s.lines {
			for k, other := range s.lines {
				n, e := version.Changes(b, one, other)
				if e != api.OK || n != s.changes(one, other) || (n == 0) != (i == k) {
					t.Fatal(one, other, n, e)
				}
				if back, e := version.Changes(b, other, one); e != api.OK || back != n {
					t.Fatal(one, other, back, e)
				}
				// for lines of three words, a part of all pairs is enough
				if words == 3 && (i+k)%7 > 0 {
					continue
				}
				all := slowSteps(one, other)
				all = slices.DeleteFunc(all, func(s []api.VersionStep) bool { return changesOf(s) > n })
				if y, e := version.Steps(b, one, other); e != api.OK || !slices.Equal(y, slices.MinFunc(all, orderOfSteps)) || changesOf(y) != n {
					t.Fatal(one, other, y, e)
				}
			}
		}
	}
}

// P6.1: never more changes than by way of a third line.
func TestChangesByWay(t *testing.T) {
	g := random(11)
	for range 3000 {
		one, other, third := randomLine(g, 3), randomLine(g, 3), randomLine(g, 3)
		n, _ := version.Changes(bookB(), one, other)
		first, _ := version.Changes(bookB(), one, third)
		second, _ := version.Changes(bookB(), third, other)
		if n > first+second {
			t.Fatal(one, other, third, n, first, second)
		}
	}
}

// P6.2: lines that lie between two lines.
func TestBetween(t *testing.T) {
	for i, x := range []struct {
		one, other []int
		want       [][]int
	}{
		{l(0, 2), l(0, 1, 1, 2), ll(l(0, 2), l(0, 1, 2), l(0, 1, 1, 2))}, {l(0, 1, 1, 2), l(0, 2), ll(l(0, 2), l(0, 1, 2), l(0, 1, 1, 2))}, {nil, nil, ll(nil)}, {l(0, 1, 2, 0), l(0, 1, 2, 0), ll(l(0, 1, 2, 0))}, {l(0), l(1), ll(l(0), l(1))}, {nil, l(0, 1), ll(nil, l(0), l(1), l(0, 1))}, {l(0, 0), l(1, 1), ll(l(0, 0), l(0, 1), l(1, 0), l(1, 1))},
		// shorter ones come first, though they are later in lexicographic order
		{l(0, 0, 2), l(2), ll(l(2), l(0, 2), l(0, 0, 2))}, {l(2), l(0, 0, 1), ll(l(0), l(1), l(2), l(0, 0), l(0, 1), l(0, 2), l(2, 0), l(2, 1), l(0, 0, 1), l(0, 0, 2), l(0, 2, 1), l(2, 0, 1))},
		// also lines that are shorter, or longer, than both
		{l(0, 1), l(1, 0), ll(l(0), l(1), l(0, 0), l(0, 1), l(1, 0), l(1, 1), l(0, 1, 0), l(1, 0, 1))}, {l(0, 1, 2, 0), l(1, 2, 0, 1), ll(l(1, 2, 0), l(0, 1, 2, 0), l(1, 2, 0, 1))},
	} {
		if y, e := version.Between(bookB(), x.one, x.other); e != api.OK || !sameLists(y, x.want) {
			t.Error(i, y, e)
		}
	}
	// words that the book has not lie between no lines
	if y, e := version.Between(single(2, lost()), l(0, 0), l(1, 1)); e != api.OK || len(y) != 4 {
		t.Error(y, e)
	}
}

// P6.2: generated lines.
func TestBetweenOfAll(t *testing.T) {
	g := random(12)
	all := slows()
	seen := met{}
	for range 600 {
		words := 1 + g.IntN(3)
		one, other := randomLine(g, words), randomLine(g, words)
		var want [][]int
		for _, line := range all[words].lines {
			if all[words].changes(one, line)+all[words].changes(line, other) == all[words].changes(one, other) {
				want = append(want, line)
			}
		}
		seen.note(min(5, len(want)))
		if y, e := version.Between(single(words, lost()), one, other); e != api.OK || !sameLists(y, want) {
			t.Fatal(words, one, other, y, e)
		}
	}
	seen.atLeast(t, 20, "1", "2", "3", "4", "5")
}

// P6.1, P6.2: lists that are no lines.
func TestBadLines(t *testing.T) {
	for i, bad := range badLines() {
		for _, x := range [][2][]int{{bad, l(0)}, {l(0), bad}, {bad, bad}} {
			if n, e := version.Changes(bookB(), x[0], x[1]); e != api.ErrArg || n != 0 {
				t.Error(i, n, e)
			}
			if y, e := version.Steps(bookB(), x[0], x[1]); e != api.ErrArg || len(y) > 0 {
				t.Error(i, y, e)
			}
			if y, e := version.Between(bookB(), x[0], x[1]); e != api.ErrArg || len(y) > 0 {
				t.Error(i, y, e)
			}
		}
	}
	// a word that other books have
	if n, e := version.Changes(smallBook(), l(2), nil); e != api.ErrArg || n != 0 {
		t.Error(n, e)
	}
}
