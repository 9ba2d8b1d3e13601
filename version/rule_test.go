package version_test

import (
	"fmt"
	"reflect"
	"slices"
	"strings"
	"testing"

	"kelir/api"
	"kelir/version"
)

// P6.1 to P6.9, P0.1: each function returns ErrArg, and nothing else, for a book that is not as defined.
func TestBadBooks(t *testing.T) {
	for i, b := range badBooks() {
		for name, call := range map[string]func() []any{
			"Changes": func() []any { y, e := version.Changes(b, nil, nil); return []any{y, e} },
			"Steps":   func() []any { y, e := version.Steps(b, nil, l(0)); return []any{y, e} },
			"Between": func() []any { y, e := version.Between(b, nil, l(0)); return []any{y, e} },
			"Least":   func() []any { y, z, e := version.Least(b, 0); return []any{y, z, e} },
			"Common":  func() []any { y, e := version.Common(b, 0); return []any{y, e} },
			"Text":    func() []any { y, z, n, e := version.Text(b); return []any{y, z, n, e} },
			"Far":     func() []any { y, e := version.Far(b, 0); return []any{y, e} },
			"Ask":     func() []any { y, z, n, e := version.Ask(b); return []any{y, z, n, e} },
			"Total": func() []any {
				y, e := version.Total(b, ll(nil, nil), l(-1, -1, -1, -1))
				return []any{y, e}
			},
			"Tree":  func() []any { y, z, e := version.Tree(b, ll(nil, nil)); return []any{y, z, e} },
			"Mixed": func() []any { y, e := version.Mixed(b, 0); return []any{y, e} },
			"Print": func() []any { y, e := version.Print(b); return []any{y, e} },
		} {
			y := call()
			last := len(y) - 1
			if y[last] != api.ErrArg {
				t.Error(i, name, b, y)
			}
			for _, v := range y[:last] {
				if !isZero(v) {
					t.Error(i, name, b, y)
				}
			}
		}
	}
}

// P0.6: the copies come from a least text with the fewest changes, whatever text somebody proposes.
func TestFewestChanges(t *testing.T) {
	g := random(51)
	for range 300 {
		b := anyBook(g)
		_, _, fewest, _ := version.Text(b)
		tree := slices.Repeat(l(-1), len(b.Copies))
		for range 10 {
			var text [][]int
			for range b.Copies[0] {
				text = append(text, randomLine(g, b.Words))
			}
			if n, e := version.Total(b, text, tree); e != api.OK || n < fewest {
				t.Fatal(b, text, n, fewest, e)
			}
		}
		text, _, _, _ := version.Text(b)
		if n, e := version.Total(b, text, tree); e != api.OK || n != fewest {
			t.Fatal(b, text, n, fewest, e)
		}
	}
}

// Nil and empty lists are the same (R3).
func TestNilAndEmpty(t *testing.T) {
	one, other := api.VersionBook{Words: 2, Copies: [][]api.VersionLine{{{}, lost()}, {written(0), {}}, {lost(), {}}}}, api.VersionBook{Words: 2, Copies: [][]api.VersionLine{{{Words: l()}, {Lost: true, Words: l()}}, {written(0), {Words: l()}}, {{Lost: true, Words: l()}, {Words: l()}}}}
	for i, call := range []func(b api.VersionBook, list []int) string{
		func(b api.VersionBook, list []int) string {
			n, e := version.Changes(b, list, l(0))
			return fmt.Sprint(n, e)
		},
		func(b api.VersionBook, list []int) string {
			y, e := version.Steps(b, l(0), list)
			return fmt.Sprint(y, e)
		},
		func(b api.VersionBook, list []int) string {
			y, e := version.Between(b, list, l(0))
			return fmt.Sprint(y, e)
		},
		func(b api.VersionBook, list []int) string { y, n, e := version.Least(b, 0); return fmt.Sprint(y, n, e) },
		func(b api.VersionBook, list []int) string { y, e := version.Common(b, 1); return fmt.Sprint(y, e) },
		func(b api.VersionBook, list []int) string {
			y, k, n, e := version.Text(b)
			return fmt.Sprint(y, k, n, e)
		},
		func(b api.VersionBook, list []int) string { y, e := version.Far(b, 1); return fmt.Sprint(y, e) },
		func(b api.VersionBook, list []int) string {
			c, k, n, e := version.Ask(b)
			return fmt.Sprint(c, k, n, e)
		},
		func(b api.VersionBook, list []int) string {
			n, e := version.Total(b, ll(list, list), l(-1, -1, -1))
			return fmt.Sprint(n, e)
		},
		func(b api.VersionBook, list []int) string {
			y, n, e := version.Tree(b, ll(list, list))
			return fmt.Sprint(y, n, e)
		},
		func(b api.VersionBook, list []int) string { y, e := version.Mixed(b, 0); return fmt.Sprint(y, e) },
		func(b api.VersionBook, list []int) string { y, e := version.Print(b); return fmt.Sprint(y, e) },
	} {
		y, z := call(one, nil), call(other, l())
		if y != z || !strings.HasSuffix(y, "0") {
			t.Error(i, y, z)
		}
	}
}

// cleared sets all that a result has to zero, as deep as it goes.
func cleared(v reflect.Value) {
	for n := range v.Len() {
		if v.Index(n).Kind() == reflect.Slice {
			cleared(v.Index(n))
		} else {
			v.Index(n).SetZero()
		}
	}
}

// roomy returns a list with room behind it, in which there is something.
func roomy(list []int) []int {
	return append(slices.Clone(list), 7, 7, 7)[:len(list)]
}

func roomyBook() api.VersionBook {
	return with(bookB(), func(b *api.VersionBook) {
		for n, lines := range b.Copies {
			b.Copies[n] = append(lines, written(7), written(7))[:len(lines)]
			for k, line := range lines {
				b.Copies[n][k].Words = roomy(line.Words)
			}
		}
		b.Copies = append(b.Copies, nil, nil)[:len(b.Copies)]
	})
}

// behind returns the lists of a book with what is behind them.
func behind(b api.VersionBook) string {
	out := fmt.Sprint(b.Copies[:cap(b.Copies)])
	for _, lines := range b.Copies {
		out += fmt.Sprint(lines[:cap(lines)])
		for _, line := range lines {
			out += fmt.Sprint(line.Words[:cap(line.Words)])
		}
	}
	return out
}

// No argument is changed, results share no memory, and two calls have equal results (R4, R8).
func TestMemory(t *testing.T) {
	b := roomyBook()
	before := behind(b)
	text, _ := version.Print(b)
	one, other := roomy(l(0, 2)), roomy(l(0, 1, 1))
	lines, tree := ll(roomy(l(0, 2)), roomy(l(1))), roomy(l(3, -1, 0, -1))
	for i, call := range []func() any{
		func() any { y, _ := version.Steps(b, one, other); return y },
		func() any { y, _ := version.Between(b, one, other); return y },
		func() any { y, _, _ := version.Least(b, 1); return y },
		func() any { y, _ := version.Common(b, 0); return y },
		func() any { y, _, _, _ := version.Text(b); return y },
		func() any { y, _, _ := version.Tree(b, lines); return y },
		func() any { y, _ := version.Read(text); return y.Copies },
		func() any { y, _ := version.Read(text); return y.Copies[2] },
		func() any { y, _ := version.Read(text); return y.Copies[2][1].Words },
	} {
		first, second := call(), call()
		want := fmt.Sprint(second)
		if fmt.Sprint(first) != want || reflect.ValueOf(first).Len() == 0 {
			t.Error(i, first, second)
		}
		cleared(reflect.ValueOf(first))
		if fmt.Sprint(second) != want || fmt.Sprint(call()) != want {
			t.Error(i, "results share memory", second)
		}
	}
	for range 2 {
		version.Check(b)
		version.Changes(b, one, other)
		version.Far(b, 1)
		version.Ask(b)
		version.Total(b, lines, tree)
		version.Total(b, lines, l(3, -1, 0, 0))
		for copy := range b.Copies {
			version.Mixed(b, copy)
		}
	}
	if !sameBook(b, bookB()) || behind(b) != before {
		t.Error("the book was changed", b)
	}
	if !slices.Equal(one[:5], l(0, 2, 7, 7, 7)) || !slices.Equal(other[:6], l(0, 1, 1, 7, 7, 7)) || !slices.Equal(lines[0][:5], l(0, 2, 7, 7, 7)) || !slices.Equal(lines[1][:4], l(1, 7, 7, 7)) || !slices.Equal(tree[:7], l(3, -1, 0, -1, 7, 7, 7)) {
		t.Error("an argument was changed", one, other, lines, tree)
	}
}

// The lists of one result share no memory (R4).
func TestMemoryOfOne(t *testing.T) {
	between, _ := version.Between(bookB(), l(0, 0), l(1, 1))
	least, _, _ := version.Least(bookB(), 1)
	text, _, _, _ := version.Text(longestBook())
	for i, lists := range [][][]int{between, least, text} {
		want := fmt.Sprint(lists[1:])
		_ = append(lists[0][:0], 9, 9)
		_ = append(lists[0], 9, 9, 9, 9)
		if len(lists) < 2 || fmt.Sprint(lists[1:]) != want {
			t.Error(i, "lists share memory", lists)
		}
	}
	printed, _ := version.Print(longestBook())
	b, _ := version.Read(printed)
	_ = append(b.Copies[0], written(0))
	_ = append(b.Copies[1][2].Words[:0], 0, 0, 0, 0)
	b.Copies[1][2] = written(2, 2, 2, 2)
	if !sameBook(b, longestBook()) {
		t.Error("lists of a book share memory", b)
	}
}

// P0.1: the longest searches end.
func TestGreatest(t *testing.T) {
	b := longestBook()
	for n := range b.Copies {
		for k := range b.Copies[n] {
			b.Copies[n][k] = written(n%3, k%3, (n+k)%3, n*k%3)
		}
	}
	if e := version.Check(b); e != api.OK {
		t.Fatal(e)
	}
	s := slowOf(3)
	want, fewest := s.least(b, 3)
	if y, n, e := version.Least(b, 3); e != api.OK || n != fewest || !sameLists(y, want) {
		t.Error(y, n, e)
	}
	if y, n, e := version.Tree(b, ll(nil, nil, nil, nil)); e != api.OK || len(y) != 5 || n < 16 {
		t.Error(y, n, e)
	}
	if y, e := version.Mixed(b, 4); e != api.OK || y.Changes == 0 {
		t.Error(y, e)
	}
	b.Copies[4] = slices.Repeat([]api.VersionLine{lost()}, 4)
	if c, _, n, e := version.Ask(b); e != api.OK || c != 4 || n < 1 {
		t.Error(c, n, e)
	}
}
