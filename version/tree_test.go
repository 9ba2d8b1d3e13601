package version_test

import (
	"math"
	"slices"
	"testing"

	"kelir/api"
	"kelir/version"
)

func textB() [][]int { return ll(l(0, 1, 2), l(1)) }

// P6.7: the changes of trees.
func TestTotal(t *testing.T) {
	short := ll(l(0, 2), l(1))
	chain := evenBook(2, 5, 1, written(0))
	for i, x := range []struct {
		b    api.VersionBook
		text [][]int
		tree []int
		want int
	}{
		{bookB(), short, l(3, -1, 0, -1), 4}, {bookB(), short, l(-1, -1, -1, -1), 6}, {bookB(), textB(), l(-1, -1, -1, -1), 4}, {smallBook(), ll(l(1, 0), l(1)), l(-1), 0}, {smallBook(), ll(nil, l(0, 0, 0, 0)), l(-1), 2}, {lostBook(), ll(l(0), l(1), nil, l(0, 0, 0, 0)), l(-1, -1, -1, -1, -1), 0}, {lostBook(), ll(nil, nil, nil, nil), l(1, 2, 3, 4, -1), 0},
		// a line that is lost counts as one without words if others are copied from it, and takes nothing itself
		{bookB(), textB(), l(1, -1, 1, 1), 10}, {bookB(), textB(), l(-1, 0, -1, -1), 4}, {bookB(), textB(), l(-1, -1, 1, -1), 6}, {single(3, lost(), written(0, 1, 2, 0)), ll(l(0, 1, 2, 0)), l(-1, 0), 4}, {single(3, lost(), written(0, 1, 2, 0)), ll(nil), l(1, -1), 4},
		// whichever copy comes first
		{chain, ll(nil), l(-1, 0, 1, 2, 3), 1}, {chain, ll(nil), l(1, 2, 3, 4, -1), 1}, {chain, ll(nil), l(2, 0, 4, 1, -1), 1}, {chain, ll(nil), l(-1, -1, -1, -1, -1), 5}, {chain, ll(l(1)), l(-1, 0, 0, -1, 3), 2},
	} {
		if n, e := version.Total(x.b, x.text, x.tree); e != api.OK || n != x.want {
			t.Error(i, n, e)
		}
	}
}

// P6.7: lists that are no trees, and others that are no texts.
func TestTotalOfOthers(t *testing.T) {
	trees := ll(nil, l(), l(-1), l(-1, -1, -1), l(-1, -1, -1, -1, -1), l(0, -1, -1, -1), l(-1, -1, -1, 3), l(0, 1, 2, 3), l(1, 0, -1, -1), l(-1, 2, 1, -1), l(1, 2, 0, -1), l(1, 2, 3, 0), l(3, -1, 0, 0), l(-1, 2, 3, 1), l(1, 1, -1, -1), slices.Repeat(l(-1), 1000))
	for _, n := range l(-2, 4, 5, math.MinInt, math.MaxInt) {
		trees = append(trees, l(n, -1, -1, -1), l(-1, -1, -1, n))
	}
	for _, tree := range trees {
		if n, e := version.Total(bookB(), textB(), tree); e != api.ErrArg || n != 0 {
			t.Error(tree, n, e)
		}
	}
	for i, text := range badTexts() {
		if n, e := version.Total(bookB(), text, l(-1, -1, -1, -1)); e != api.ErrArg || n != 0 {
			t.Error(i, n, e)
		}
		if y, n, e := version.Tree(bookB(), text); e != api.ErrArg || n != 0 || len(y) > 0 {
			t.Error(i, y, n, e)
		}
	}
}

// badTexts are no texts of the book b.
func badTexts() [][][]int {
	out := [][][]int{nil, {}, ll(nil), ll(l(0, 1, 2)), ll(nil, nil, nil), append(textB(), l(0))}
	for _, line := range badLines() {
		out = append(out, ll(line, l(1)), ll(l(0, 1, 2), line))
	}
	return out
}

// P6.7: the tree with the fewest changes.
func TestTree(t *testing.T) {
	for i, x := range []struct {
		b    api.VersionBook
		text [][]int
		want []int
		n    int
	}{
		{bookB(), textB(), l(-1, -1, -1, -1), 4}, {bookB(), ll(l(0, 2), l(1)), l(3, -1, 0, -1), 4}, {smallBook(), ll(nil, nil), l(-1), 2}, {single(1, lost()), ll(nil), l(-1), 0}, {lostBook(), ll(nil, nil, nil, nil), l(-1, -1, -1, -1, -1), 0}, {longestBook(), ll(nil, nil, nil, nil), l(-1, 0, 0, 0, 0), 16},
		{single(1, written(0, 0), written(0, 0, 0)), ll(nil), l(-1, 0), 3}, {single(1, written(0, 0, 0), written(0, 0)), ll(nil), l(1, -1), 3}, {single(1, written(0, 0, 0), written(0)), ll(nil), l(1, -1), 3},
		// of several, one in which a copy that comes earlier is from the text, or from an earlier copy
		{single(1, written(0), written(0), written(0)), ll(nil), l(-1, 0, 0), 1}, {single(1, written(0), written(0), written(0)), ll(l(0)), l(-1, -1, -1), 0}, {single(2, written(0, 0), written(0), written(1), written(0, 0)), ll(nil), l(1, -1, -1, 0), 3},
		// a long way
		{single(1, written(0, 0, 0, 0), written(0, 0), written(0), written(0, 0, 0)), ll(nil), l(3, 2, -1, 1), 4},
		// from a copy that has lost its line, if the others are far
		{single(1, lost(), written(0, 0, 0), written(0, 0, 0, 0)), ll(nil), l(-1, -1, 1), 4}, {single(1, lost(), written(0), written(0)), ll(l(0, 0, 0)), l(-1, 0, 1), 1},
	} {
		if y, n, e := version.Tree(x.b, x.text); e != api.OK || n != x.n || !slices.Equal(y, x.want) {
			t.Error(i, y, n, e)
		}
	}
}

// P6.7: all trees of generated books.
func TestTreesOfAll(t *testing.T) {
	g := random(31)
	all := slows()
	seen := met{}
	for n := range 300 {
		b := anyBook(g)
		s := all[b.Words]
		var text [][]int
		for range b.Copies[0] {
			text = append(text, randomLine(g, b.Words))
		}
		// the trees of five copies are many
		if len(b.Copies) == 5 && n%10 > 0 {
			b.Copies = b.Copies[:4]
		}
		var want []int
		fewest, several := math.MaxInt, 0
		for _, tree := range slowTrees(len(b.Copies)) {
			count, _ := s.total(b, text, tree)
			if y, e := version.Total(b, text, tree); e != api.OK || y != count {
				t.Fatal(b, text, tree, y, e)
			}
			if count < fewest {
				want, fewest, several = tree, count, 0
			}
			if count == fewest {
				several++
			}
		}
		seen.note("several ", min(2, several))
		for _, from := range want {
			seen.note("from ", min(2, from))
		}
		if y, n, e := version.Tree(b, text); e != api.OK || n != fewest || !slices.Equal(y, want) {
			t.Fatal(b, text, y, n, e)
		}
	}
	seen.atLeast(t, 30, "several 1", "several 2", "from -1", "from 0", "from 1", "from 2")
}

// P6.7: all lists of numbers, which are trees or not.
func TestWhatIsATree(t *testing.T) {
	for copies := range 4 {
		b := evenBook(1, copies+1, 1, lost())
		trees := slowTrees(copies + 1)
		lists := ll(nil)
		for n := 0; n < len(lists); n++ {
			for from := -2; from <= copies+1 && len(lists[n]) <= copies; from++ {
				lists = append(lists, append(slices.Clone(lists[n]), from))
			}
		}
		count := 0
		for _, list := range lists {
			want := api.ErrArg
			if slices.ContainsFunc(trees, func(tree []int) bool { return slices.Equal(tree, list) }) {
				want = api.OK
				count++
			}
			if n, e := version.Total(b, ll(nil), list); e != want || n != 0 {
				t.Fatal(list, n, e)
			}
		}
		if count != []int{1, 3, 16, 125}[copies] {
			t.Error(copies, count)
		}
	}
}

// threeBook has a copy of which each line is from one of the two others.
func threeBook() api.VersionBook {
	return api.VersionBook{Words: 2, Copies: [][]api.VersionLine{slices.Repeat([]api.VersionLine{written(0)}, 3), slices.Repeat([]api.VersionLine{written(1)}, 3), {written(0), written(0), written(1)}}}
}

// P6.8: of which two others a copy was made.
func TestMixed(t *testing.T) {
	mix := func(one, other, lines, changes int) api.VersionMix {
		return api.VersionMix{One: one, Other: other, Lines: lines, Changes: changes}
	}
	gaps := api.VersionBook{Words: 1, Copies: [][]api.VersionLine{{written(0), written()}, {lost(), written(0, 0)}, {written(0, 0, 0), lost()}}}
	twice := with(threeBook(), func(b *api.VersionBook) { b.Copies = append(b.Copies, b.Copies[0], b.Copies[1]) })
	for i, x := range []struct {
		b    api.VersionBook
		copy int
		want api.VersionMix
		e    api.Errno
	}{
		{bookB(), 3, mix(0, 1, 1, 1), api.OK}, {bookB(), 0, mix(3, 2, 1, 1), api.OK}, {bookB(), 1, mix(0, 2, 1, 1), api.OK}, {bookB(), 2, mix(0, 3, 1, 2), api.OK}, {threeBook(), 2, mix(0, 1, 2, 0), api.OK}, {threeBook(), 0, mix(2, 1, 2, 1), api.OK}, {threeBook(), 1, mix(0, 2, 1, 2), api.OK},
		// of several, the first one, then the first other one, then the fewest lines
		{twice, 2, mix(0, 1, 2, 0), api.OK}, {twice, 0, mix(2, 3, 1, 0), api.OK}, {twice, 4, mix(1, 2, 2, 0), api.OK}, {lostBook(), 0, mix(1, 2, 1, 0), api.OK}, {lostBook(), 2, mix(0, 1, 1, 0), api.OK}, {longestBook(), 4, mix(0, 1, 1, 0), api.OK},
		// a line that another one has lost counts as one without words, and one that the copy has lost takes nothing
		{gaps, 0, mix(1, 2, 1, 1), api.OK}, {gaps, 1, mix(0, 2, 1, 2), api.OK}, {gaps, 2, mix(0, 1, 1, 2), api.OK},
		// fewer than three copies, or one line alone
		{single(2, written(0), written(1), written(0)), 0, mix(0, 0, 0, 0), api.ErrNone}, {with(bookB(), func(b *api.VersionBook) { b.Copies = b.Copies[:2] }), 1, mix(0, 0, 0, 0), api.ErrNone}, {smallBook(), 0, mix(0, 0, 0, 0), api.ErrNone}, {single(1, lost()), 0, mix(0, 0, 0, 0), api.ErrNone}, {with(bookB(), func(b *api.VersionBook) { b.Copies = b.Copies[:3] }), 0, mix(1, 2, 1, 2), api.OK},
		// a copy that there is not comes first
		{smallBook(), 1, mix(0, 0, 0, 0), api.ErrArg}, {single(2, written(0), written(1), written(0)), 3, mix(0, 0, 0, 0), api.ErrArg}, {single(2, written(0)), -1, mix(0, 0, 0, 0), api.ErrArg},
	} {
		if y, e := version.Mixed(x.b, x.copy); e != x.e || y != x.want {
			t.Error(i, y, e)
		}
	}
	for _, copy := range badNumbers() {
		if y, e := version.Mixed(bookB(), copy); e != api.ErrArg || y != (api.VersionMix{}) {
			t.Error(copy, y, e)
		}
	}
}

// slowMixed returns all ways in which a copy was made of two others, with the best one first.
func slowMixed(s slow, b api.VersionBook, copy int) []api.VersionMix {
	var out []api.VersionMix
	for one := range b.Copies {
		for other := range b.Copies {
			for n := 1; n < len(b.Copies[0]); n++ {
				if one != other && one != copy && other != copy {
					text := slices.Concat(slowWords(b, one)[:n], slowWords(b, other)[n:])
					out = append(out, api.VersionMix{One: one, Other: other, Lines: n, Changes: s.toCopy(b, text, copy)})
				}
			}
		}
	}
	slices.SortStableFunc(out, func(a, b api.VersionMix) int { return a.Changes - b.Changes })
	return out
}

// P6.8: generated books; no two copies take fewer changes.
func TestMixedOfAll(t *testing.T) {
	g := random(32)
	all := slows()
	seen := met{}
	for range 1000 {
		b := anyBook(g)
		for copy := range b.Copies {
			mixes := slowMixed(all[b.Words], b, copy)
			if len(mixes) == 0 {
				seen.note("none")
				if y, e := version.Mixed(b, copy); e != api.ErrNone || y != (api.VersionMix{}) {
					t.Fatal(b, copy, y, e)
				}
				continue
			}
			seen.note("one ", min(2, mixes[0].One))
			seen.note("other ", min(2, mixes[0].Other))
			seen.note("lines ", mixes[0].Lines)
			if y, e := version.Mixed(b, copy); e != api.OK || y != mixes[0] {
				t.Fatal(b, copy, y, e)
			}
		}
	}
	seen.atLeast(t, 20, "none", "one 0", "one 1", "one 2", "other 0", "other 1", "other 2", "lines 1", "lines 2", "lines 3")
}
