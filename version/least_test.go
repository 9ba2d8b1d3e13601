package version_test

import (
	"slices"
	"testing"

	"kelir/api"
	"kelir/version"
)

// P6.3, P6.4: least lines, and what they have in common.
func TestLeastAndCommon(t *testing.T) {
	for i, x := range []struct {
		b      api.VersionBook
		line   int
		want   [][]int
		n      int
		common []int
	}{
		{bookB(), 0, ll(l(0, 1, 2)), 2, l(0, 1, 2)}, {bookB(), 1, ll(l(1), l(1, 1), l(1, 2)), 2, l(1)}, {smallBook(), 0, ll(l(1, 0)), 0, l(1, 0)}, {smallBook(), 1, slowLines(2), 0, nil}, {lostBook(), 3, slowLines(3), 0, nil}, {longestBook(), 3, ll(l(2, 2, 2, 2)), 0, l(2, 2, 2, 2)},
		{single(1, written()), 0, ll(nil), 0, nil}, {single(2, written(0), written(1)), 0, ll(l(0), l(1)), 1, nil}, {single(2, written(0), written(1), written(1)), 0, ll(l(1)), 1, l(1)}, {single(2, written(0), written(1), lost()), 0, ll(l(0), l(1)), 1, nil}, {single(1, written(0), written(0, 0, 0)), 0, ll(l(0), l(0, 0), l(0, 0, 0)), 2, l(0)}, {single(2, written(), written(0, 1)), 0, ll(nil, l(0), l(1), l(0, 1)), 2, nil},
		{single(2, written(0, 1), written(1, 0)), 0, ll(l(0), l(1), l(0, 0), l(0, 1), l(1, 0), l(1, 1), l(0, 1, 0), l(1, 0, 1)), 2, nil},
		// a line that is in no copy
		{single(3, written(0, 1), written(0, 2), written(1, 2)), 0, ll(l(0, 2)), 2, l(0, 2)}, {single(2, written(1), written(0, 0), written(0, 1, 1)), 0, ll(l(0, 1)), 3, l(0, 1)},
		// a shorter line comes first, though it is later in lexicographic order
		{single(3, written(2), written(0, 2)), 0, ll(l(2), l(0, 2)), 1, l(2)},
		// each least line has others beside what all of them have; of several longest lists the first one
		{single(3, written(0, 1, 2), written(1, 0, 2)), 0, ll(l(0, 2), l(1, 2), l(0, 0, 2), l(0, 1, 2), l(1, 0, 2), l(1, 1, 2), l(0, 1, 0, 2), l(1, 0, 1, 2)), 2, l(2)},
		{single(2, written(0, 0, 1, 0), written(0, 1, 0, 1)), 0, ll(l(0, 0, 1), l(0, 1, 0), l(0, 0, 1, 0), l(0, 1, 0, 1)), 2, l(0, 0)}, {single(3, written(0, 2, 0, 1), written(0), written(2, 2, 1)), 0, ll(l(0, 2, 1), l(2, 0, 1)), 4, l(0, 1)},
	} {
		slices.SortFunc(x.want, order)
		if y, n, e := version.Least(x.b, x.line); e != api.OK || n != x.n || !sameLists(y, x.want) {
			t.Error(i, y, n, e)
		}
		if y, e := version.Common(x.b, x.line); e != api.OK || !slices.Equal(y, x.common) {
			t.Error(i, y, e)
		}
	}
}

// P6.3, P6.4: generated books; no line has fewer changes, and no longer list is in all least lines.
func TestLeastAndCommonOfAll(t *testing.T) {
	g := random(21)
	all := slows()
	seen := met{}
	for range 400 {
		b := anyBook(g)
		s := all[b.Words]
		for number := range b.Copies[0] {
			want, fewest := s.least(b, number)
			if y, n, e := version.Least(b, number); e != api.OK || n != fewest || !sameLists(y, want) {
				t.Fatal(b, number, y, n, e)
			}
			shared := slices.Clone(s.lines)
			shared = slices.DeleteFunc(shared, func(line []int) bool { return !hasAll(want, line) })
			slices.SortStableFunc(shared, func(a, b []int) int { return len(b) - len(a) })
			seen.note("least ", min(4, len(want)))
			seen.note("common ", len(shared[0]), " of ", min(2, len(want)))
			if y, e := version.Common(b, number); e != api.OK || !slices.Equal(y, shared[0]) {
				t.Fatal(b, number, y, e)
			}
		}
	}
	seen.atLeast(t, 5, "least 1", "least 2", "least 3", "least 4", "common 0 of 1", "common 1 of 1", "common 4 of 1", "common 0 of 2", "common 1 of 2", "common 2 of 2")
}

// P6.4: of several longest lists the first one.
func TestFirstCommon(t *testing.T) {
	g := random(25)
	several := 0
	for range 2000 {
		b := api.VersionBook{Words: 2 + g.IntN(2)}
		for range 2 + g.IntN(4) {
			b.Copies = append(b.Copies, []api.VersionLine{written(randomLine(g, b.Words)...)})
		}
		least, _, _ := version.Least(b, 0)
		shared := slices.DeleteFunc(slowLines(b.Words), func(line []int) bool { return !hasAll(least, line) })
		longest := len(shared[len(shared)-1])
		first := slices.IndexFunc(shared, func(line []int) bool { return len(line) == longest })
		if first < len(shared)-1 {
			several++
		}
		if y, e := version.Common(b, 0); e != api.OK || !slices.Equal(y, shared[first]) {
			t.Fatal(b, y, e)
		}
	}
	if several < 10 {
		t.Error(several)
	}
}

// P6.3: the first least text, how many there are, and their changes.
func TestText(t *testing.T) {
	for i, x := range []struct {
		b       api.VersionBook
		want    [][]int
		many, n int
	}{
		{bookB(), ll(l(0, 1, 2), l(1)), 3, 4}, {smallBook(), ll(l(1, 0), nil), 31, 0}, {single(2, written(0), written(1)), ll(l(0)), 2, 1}, {single(3, lost()), ll(nil), 121, 0}, {single(2, lost()), ll(nil), 31, 0}, {single(1, lost()), ll(nil), 5, 0}, {longestBook(), ll(l(2, 2, 2, 2), l(2, 2, 2, 2), l(2, 2, 2, 2), l(2, 2, 2, 2)), 1, 0},
		{lostBook(), ll(nil, nil, nil, nil), 121 * 121 * 121 * 121, 0}, {api.VersionBook{Words: 2, Copies: [][]api.VersionLine{{written(0), written(1, 1)}, {written(1), written(1)}}}, ll(l(0), l(1)), 4, 2}, {api.VersionBook{Words: 3, Copies: [][]api.VersionLine{{written(2), written()}, {written(0, 2), written(1)}}}, ll(l(2), nil), 4, 2},
	} {
		if y, many, n, e := version.Text(x.b); e != api.OK || many != x.many || n != x.n || !sameLists(y, x.want) {
			t.Error(i, y, many, n, e)
		}
	}
}

// P6.5: how far copies are from least texts.
func TestFar(t *testing.T) {
	for i, x := range []struct {
		b    api.VersionBook
		copy int
		want api.Span
	}{
		{bookB(), 0, api.Span{Low: 0, High: 1}}, {bookB(), 1, api.Span{Low: 1, High: 1}}, {bookB(), 2, api.Span{Low: 1, High: 2}}, {bookB(), 3, api.Span{Low: 0, High: 1}}, {smallBook(), 0, api.Span{}}, {lostBook(), 4, api.Span{}}, {longestBook(), 4, api.Span{}},
		{single(2, written(0), written(1), lost()), 0, api.Span{Low: 0, High: 1}}, {single(2, written(0), written(1), lost()), 2, api.Span{}}, {single(2, written(0, 1), written(1, 0)), 0, api.Span{Low: 0, High: 2}}, {single(1, written(), written(0, 0, 0, 0)), 1, api.Span{Low: 0, High: 4}},
		{single(1, written(), written(), written(0, 0, 0)), 2, api.Span{Low: 3, High: 3}},
		// lines are together as far as each of them
		{evenBook(1, 1, 4, written(0)), 0, api.Span{}}, {api.VersionBook{Words: 2, Copies: [][]api.VersionLine{{written(0), written(), lost(), written(0)}, {written(1), written(0, 0), written(1), lost()}}}, 1, api.Span{Low: 0, High: 3}},
	} {
		if y, e := version.Far(x.b, x.copy); e != api.OK || y != x.want {
			t.Error(i, y, e)
		}
	}
}

// P6.3, P6.5: all least texts of generated books.
func TestTextAndFarOfAll(t *testing.T) {
	g := random(22)
	all := slows()
	seen := met{}
	for range 500 {
		b := randomBook(g, 1+g.IntN(3), g.IntN(4))
		s := all[b.Words]
		texts := s.texts(b, 500)
		if texts == nil {
			continue
		}
		count := 0
		for copy := range b.Copies {
			count += s.toCopy(b, texts[0], copy)
		}
		seen.note("texts ", min(4, len(texts)))
		if y, many, n, e := version.Text(b); e != api.OK || many != len(texts) || n != count || !sameLists(y, texts[0]) {
			t.Fatal(b, y, many, n, e)
		}
		for copy := range b.Copies {
			want := api.Span{Low: s.toCopy(b, texts[0], copy), High: s.toCopy(b, texts[0], copy)}
			for _, text := range texts {
				n := s.toCopy(b, text, copy)
				want.Low, want.High = min(want.Low, n), max(want.High, n)
			}
			seen.note("far ", min(2, want.High-want.Low))
			if y, e := version.Far(b, copy); e != api.OK || y != want {
				t.Fatal(b, copy, y, e)
			}
		}
	}
	seen.atLeast(t, 20, "texts 1", "texts 2", "texts 3", "texts 4", "far 0", "far 1", "far 2")
}

// P6.6: the line that should be asked for.
func TestAsk(t *testing.T) {
	for i, x := range []struct {
		b             api.VersionBook
		copy, line, n int
		e             api.Errno
	}{
		{bookB(), 1, 1, 4, api.OK}, {with(bookB(), func(b *api.VersionBook) { b.Copies[1][1] = written(1) }), 0, 0, 0, api.ErrNone}, {longestBook(), 0, 0, 0, api.ErrNone}, {smallBook(), 0, 1, 1, api.OK},
		{single(1, lost()), 0, 0, 1, api.OK}, {single(3, lost(), lost()), 0, 0, 1, api.OK}, {single(1, written(0), lost()), 1, 0, 4, api.OK}, {single(1, written(0), lost(), lost()), 1, 0, 4, api.OK}, {single(1, written(), written()), 0, 0, 0, api.ErrNone},
		{lostBook(), 0, 0, 121 * 121 * 121, api.OK},
		// a line of a later copy leaves fewer
		{api.VersionBook{Words: 1, Copies: [][]api.VersionLine{{written(0), lost()}, {lost(), lost()}}}, 0, 1, 1, api.OK}, {api.VersionBook{Words: 1, Copies: [][]api.VersionLine{{lost(), written(0)}, {written(0), written(0)}, {lost(), lost()}}}, 2, 1, 1, api.OK},
		// of several the one of the first copy, though it comes later in the line
		{api.VersionBook{Words: 1, Copies: [][]api.VersionLine{{written(0), lost()}, {lost(), written(0)}}}, 0, 1, 4, api.OK}, {api.VersionBook{Words: 1, Copies: [][]api.VersionLine{{written(0), written(0)}, {lost(), lost()}}}, 1, 0, 4, api.OK},
	} {
		if c, k, n, e := version.Ask(x.b); e != x.e || c != x.copy || k != x.line || n != x.n {
			t.Error(i, c, k, n, e)
		}
	}
}

// slowAsk returns what Ask returns, and how many lines leave as few texts.
func slowAsk(s slow, b api.VersionBook) (copy, line, left, several int) {
	for c, lines := range b.Copies {
		for k := range lines {
			if !b.Copies[c][k].Lost {
				continue
			}
			worst := 0
			for _, found := range s.lines {
				many := 1
				after := with(b, func(b *api.VersionBook) { b.Copies[c][k] = written(found...) })
				for number := range lines {
					least, _ := s.least(after, number)
					many *= len(least)
				}
				worst = max(worst, many)
			}
			if left == 0 || worst < left {
				copy, line, left, several = c, k, worst, 0
			}
			if worst == left {
				several++
			}
		}
	}
	return copy, line, left, several
}

// P6.6: generated books.
func TestAskOfAll(t *testing.T) {
	g := random(23)
	all := slows()
	seen := met{}
	for n := range 150 {
		words := 1 + n%2
		if n%30 == 0 {
			words = 3
		}
		b := randomBook(g, words, 1+g.IntN(4))
		copy, line, left, several := slowAsk(all[words], b)
		want := api.OK
		if several == 0 {
			want = api.ErrNone
		}
		seen.note(want, " several ", min(2, several))
		seen.note("copy ", min(1, copy), " line ", min(1, line))
		if c, k, n, e := version.Ask(b); e != want || c != copy || k != line || n != left {
			t.Fatal(b, copy, line, left, c, k, n, e)
		}
	}
	seen.atLeast(t, 5, "5 several 0", "0 several 1", "0 several 2", "copy 0 line 0", "copy 1 line 0", "copy 0 line 1", "copy 1 line 1")
}

// P6.6: whatever is found, no more least texts are left.
func TestAfterAsk(t *testing.T) {
	reached := 0
	for _, b := range []api.VersionBook{bookB(), smallBook(), single(1, written(0), lost())} {
		copy, line, left, _ := version.Ask(b)
		for _, found := range slowLines(b.Words) {
			_, many, _, e := version.Text(with(b, func(b *api.VersionBook) { b.Copies[copy][line] = written(found...) }))
			if e != api.OK || many > left {
				t.Error(b, found, many, e)
			}
			if many == left {
				reached++
			}
		}
	}
	if reached < 3 {
		t.Error(reached)
	}
}

// P6.3 to P6.5: numbers of lines and copies that there are not.
func TestBadNumbers(t *testing.T) {
	for _, n := range append(badNumbers(), 2, 3) {
		if y, k, e := version.Least(bookB(), n); e != api.ErrArg || len(y) > 0 || k != 0 {
			t.Error(n, y, k, e)
		}
		if y, e := version.Common(bookB(), n); e != api.ErrArg || len(y) > 0 {
			t.Error(n, y, e)
		}
	}
	for _, n := range badNumbers() {
		if y, e := version.Far(bookB(), n); e != api.ErrArg || y != (api.Span{}) {
			t.Error(n, y, e)
		}
	}
}

// P6.10: one copy more, which may be a least line.
func TestOneMore(t *testing.T) {
	g := random(24)
	all := slows()
	some := 0
	for range 300 {
		b := randomBook(g, 1+g.IntN(3), g.IntN(6))
		if len(b.Copies) == 5 {
			continue
		}
		least, n, _ := version.Least(b, 0)
		more := func(line []int) api.VersionBook {
			lines := slices.Clone(b.Copies[0])
			lines[0] = written(line...)
			return with(b, func(b *api.VersionBook) { b.Copies = append(b.Copies, lines) })
		}
		for range 5 {
			line := randomLine(g, b.Words)
			_, after, e := version.Least(more(line), 0)
			if e != api.OK || after < n {
				t.Fatal(b, line, n, after, e)
			}
			for _, own := range least {
				if after > n+all[b.Words].changes(own, line) {
					t.Fatal(b, line, own, n, after)
				}
			}
		}
		for _, line := range least[:min(5, len(least))] {
			some++
			if y, after, e := version.Least(more(line), 0); e != api.OK || after != n || !sameLists(y, ll(line)) {
				t.Fatal(b, line, y, after, e)
			}
		}
	}
	if some < 200 {
		t.Error(some)
	}
}
