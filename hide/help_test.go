package hide_test

import (
	"fmt"
	"math"
	"math/rand/v2"
	"reflect"
	"slices"
	"testing"

	"kelir/api"
)

const along, across = api.HideAlong, api.HideAcross

const never, may, surely = api.HideNever, api.HideMay, api.HideSurely

func l(n ...int) []int { return n }

func ll(lists ...[]int) [][]int { return lists }

func sp(low, high int) api.Span { return api.Span{Low: low, High: high} }

func rates(along, across int) api.HideRates { return api.HideRates{Along: along, Across: across} }

func words(w ...api.HideWord) []api.HideWord { return w }

// registerR and registerS are the registers r and s of the chapter.
func registerR() api.HideRegister {
	return api.HideRegister{Kinds: []api.HideKind{along, along, across}, Hides: ll(l(100, 200, 100), l(100, 210, 100), l(110, 220, 100)), Along: sp(980, 1020), Across: sp(980, 1020), Off: 1, Mends: 1}
}

func registerS() api.HideRegister {
	return with(registerR(), func(r *api.HideRegister) { r.Mends = 0 })
}

// findF, findG and findN are the finds f, g and n of the chapter.
func findF() []int { return l(100, 200, 100) }

func findG() []int { return l(103, 210, -1) }

func findN() []int { return l(-1, -1, -1) }

// smallRegister is the register of the chapter's text.
func smallRegister() api.HideRegister { return stiff(1, along, 1) }

// stiff returns a register of hides of one measure that do not warp.
func stiff(off int, kind api.HideKind, sizes ...int) api.HideRegister {
	r := api.HideRegister{Kinds: []api.HideKind{kind}, Along: sp(1000, 1000), Across: sp(1000, 1000), Off: off}
	for _, size := range sizes {
		r.Hides = append(r.Hides, l(size))
	}
	return r
}

// greatestRegister has the longest text, and as much of everything as there may be.
func greatestRegister() api.HideRegister {
	r := api.HideRegister{Kinds: slices.Repeat([]api.HideKind{across}, 6), Along: sp(1260, 1300), Across: sp(1260, 1300), Off: 5, Mends: 2}
	for range 6 {
		r.Hides = append(r.Hides, slices.Repeat(l(500), 6))
	}
	return r
}

// mixedRegister is as large as the greatest one, with measures of both kinds, each of which tells all hides.
func mixedRegister() api.HideRegister {
	r := greatestRegister()
	for measure := range 3 {
		r.Kinds[measure] = along
	}
	for hide, sizes := range r.Hides {
		for measure := range sizes {
			r.Hides[hide][measure] = 100 + 60*hide
		}
	}
	r.Mends = 0
	return r
}

func copyOf(r api.HideRegister) api.HideRegister {
	r.Kinds, r.Hides = slices.Clone(r.Kinds), slices.Clone(r.Hides)
	for n, sizes := range r.Hides {
		r.Hides[n] = slices.Clone(sizes)
	}
	return r
}

func with(r api.HideRegister, change func(*api.HideRegister)) api.HideRegister {
	r = copyOf(r)
	change(&r)
	return r
}

func badRegisters() []api.HideRegister {
	out := []api.HideRegister{{}, {Kinds: []api.HideKind{along}}, {Hides: ll(l(1))}}
	for _, n := range l(math.MinInt, -1000, -1, 699, 1301, math.MaxInt) {
		out = append(out,
			with(registerR(), func(r *api.HideRegister) { r.Along.Low = n }),
			with(registerR(), func(r *api.HideRegister) { r.Along.High = n }),
			with(registerR(), func(r *api.HideRegister) { r.Across.Low = n }),
			with(registerR(), func(r *api.HideRegister) { r.Across.High = n }),
			with(registerR(), func(r *api.HideRegister) { r.Along = sp(n, n) }),
			with(registerR(), func(r *api.HideRegister) { r.Across = sp(n, n) }),
			with(registerR(), func(r *api.HideRegister) { r.Off = n }),
			with(registerR(), func(r *api.HideRegister) { r.Mends = n }),
			with(registerR(), func(r *api.HideRegister) { r.Kinds[2] = api.HideKind(n) }),
			with(registerR(), func(r *api.HideRegister) { r.Hides[2][2] = n }))
	}
	for _, change := range []func(*api.HideRegister){
		func(r *api.HideRegister) { r.Kinds = nil },
		func(r *api.HideRegister) { r.Kinds, r.Hides = nil, ll(nil) },
		func(r *api.HideRegister) { r.Kinds, r.Hides = []api.HideKind{}, ll(l(), l()) },
		func(r *api.HideRegister) { r.Kinds[0] = 0 },
		func(r *api.HideRegister) { r.Kinds[1] = 3 },
		func(r *api.HideRegister) { r.Kinds = r.Kinds[:2] },
		func(r *api.HideRegister) { r.Kinds = append(r.Kinds, along) },
		func(r *api.HideRegister) {
			r.Kinds, r.Hides = slices.Repeat([]api.HideKind{across}, 7), ll(l(1, 1, 1, 1, 1, 1, 1))
		},
		func(r *api.HideRegister) { r.Hides = nil },
		func(r *api.HideRegister) { r.Hides = [][]int{} },
		func(r *api.HideRegister) { r.Hides = ll(nil) },
		func(r *api.HideRegister) { r.Hides = append(r.Hides, nil) },
		func(r *api.HideRegister) { r.Hides = slices.Repeat(r.Hides[:1], 7) },
		func(r *api.HideRegister) { r.Hides[0] = r.Hides[0][:2] },
		func(r *api.HideRegister) { r.Hides[2] = append(r.Hides[2], 1) },
		func(r *api.HideRegister) { r.Hides[0][0] = 0 },
		func(r *api.HideRegister) { r.Hides[1][2] = 501 },
		func(r *api.HideRegister) { r.Along = sp(1000, 999) },
		func(r *api.HideRegister) { r.Across = sp(1000, 999) },
		func(r *api.HideRegister) { r.Along = sp(980, 1021) },
		func(r *api.HideRegister) { r.Across = sp(980, 1021) },
		func(r *api.HideRegister) { r.Along = sp(699, 739) },
		func(r *api.HideRegister) { r.Across = sp(1261, 1301) },
		func(r *api.HideRegister) { r.Off = 0 },
		func(r *api.HideRegister) { r.Off = 6 },
		func(r *api.HideRegister) { r.Mends = 3 },
	} {
		out = append(out, with(registerR(), change))
	}
	return out
}

// badFinds are no finds of the register r, badNumbers neither numbers of its hides nor of its measures.
func badFinds() [][]int {
	return ll(nil, l(), l(100), l(100, 200), l(100, 200, 100, 100), l(-2, 200, 100), l(100, 1001, 100), l(100, 200, 1001), l(-1, -1, -2), l(math.MinInt, -1, -1), l(-1, -1, math.MaxInt), slices.Repeat(l(1), 1000))
}

func badNumbers() []int { return l(-1, 3, 4, math.MinInt, math.MaxInt) }

// badRates are no rates of the register r.
func badRates() []api.HideRates {
	return []api.HideRates{{}, rates(979, 1000), rates(1021, 1000), rates(1000, 979), rates(1000, 1021), rates(0, 1000), rates(1000, 0), rates(math.MinInt, math.MinInt), rates(math.MaxInt, 1000), rates(1000, math.MaxInt)}
}

func random(seed uint64) *rand.Rand { return rand.New(rand.NewPCG(seed, 7)) }

// sizes says which random registers there are: how many measures and hides at most, the greatest size, by how much sizes differ at most, and how wide spans of rates are.
type sizes struct{ measures, hides, greatest, differ, wide int }

func randomSpan(g *rand.Rand, wide int) api.Span {
	wide = g.IntN(wide + 1)
	low := 1000 - g.IntN(wide+1)
	if g.IntN(3) == 0 {
		low = 700 + g.IntN(601-wide)
	}
	return sp(low, low+wide)
}

// randomRegister has hides that are like one another.
func randomRegister(g *rand.Rand, s sizes) api.HideRegister {
	r := api.HideRegister{Along: randomSpan(g, s.wide), Across: randomSpan(g, s.wide), Off: 1 + g.IntN(2), Mends: g.IntN(3)}
	var first []int
	for range 1 + g.IntN(s.measures) {
		r.Kinds = append(r.Kinds, along+api.HideKind(g.IntN(2)))
		first = append(first, 1+g.IntN(s.greatest))
	}
	for range 1 + g.IntN(s.hides) {
		own := slices.Clone(first)
		for measure := range own {
			own[measure] = min(max(own[measure]+g.IntN(2*s.differ+1)-s.differ, 1), s.greatest)
		}
		r.Hides = append(r.Hides, own)
	}
	return r
}

// anyRegister is one that slow definitions take, with sizes of any kind.
func anyRegister(g *rand.Rand) api.HideRegister {
	return randomRegister(g, sizes{6, 6, 500, 1 + g.IntN(12), 4})
}

func randomRates(g *rand.Rand, r api.HideRegister) api.HideRates {
	in := func(s api.Span) int { return s.Low + g.IntN(s.High-s.Low+1) }
	return rates(in(r.Along), in(r.Across))
}

// lengthOf returns thousandths.
func lengthOf(r api.HideRegister, hide, measure int, x api.HideRates) int {
	if r.Kinds[measure] == along {
		return r.Hides[hide][measure] * x.Along
	}
	return r.Hides[hide][measure] * x.Across
}

// rightReading returns one with which a measure is not changed.
func rightReading(g *rand.Rand, r api.HideRegister, hide, measure int, x api.HideRates) int {
	var right []int
	for n := range 1001 {
		if !slowOff(r, n, lengthOf(r, hide, measure, x)) {
			right = append(right, n)
		}
	}
	return right[g.IntN(len(right))]
}

// lent returns a find of a hide that warped by some rates, of which so many measures at most were changed.
func lent(g *rand.Rand, r api.HideRegister, hide int, x api.HideRates, changed int) []int {
	var find []int
	for measure := range r.Kinds {
		find = append(find, rightReading(g, r, hide, measure, x))
	}
	for range changed {
		measure := g.IntN(len(find))
		if g.IntN(2) == 0 {
			find[measure] = min(max(find[measure]+g.IntN(13)-6, 0), 1000)
		} else {
			find[measure] = g.IntN(1001)
		}
	}
	for measure := range find {
		if g.IntN(6) == 0 {
			find[measure] = -1
		}
	}
	return find
}

// anyFind is one of some hide, or of none.
func anyFind(g *rand.Rand, r api.HideRegister) []int {
	return lent(g, r, g.IntN(len(r.Hides)), randomRates(g, r), g.IntN(4))
}

// slowOff reports whether a reading differs too much from a length, in thousandths.
func slowOff(r api.HideRegister, reading, length int) bool {
	return 1000*reading-length > 1000*r.Off || length-1000*reading > 1000*r.Off
}

func slowChanges(r api.HideRegister, hide int, find []int, x api.HideRates) []int {
	var out []int
	for measure, reading := range find {
		if reading != -1 && slowOff(r, reading, lengthOf(r, hide, measure, x)) {
			out = append(out, measure)
		}
	}
	return out
}

// slowRates returns all rates of a register, in order.
func slowRates(r api.HideRegister) []api.HideRates {
	var out []api.HideRates
	for a := r.Along.Low; a <= r.Along.High; a++ {
		for b := r.Across.Low; b <= r.Across.High; b++ {
			out = append(out, rates(a, b))
		}
	}
	return out
}

// slowFits returns all rates that fit, in order.
func slowFits(r api.HideRegister, hide int, find []int) []api.HideRates {
	var out []api.HideRates
	for _, x := range slowRates(r) {
		if len(slowChanges(r, hide, find, x)) <= r.Mends {
			out = append(out, x)
		}
	}
	return out
}

// slowMay returns all hides that may be the one, in order.
func slowMay(r api.HideRegister, find []int) []int {
	var out []int
	for hide := range r.Hides {
		if len(slowFits(r, hide, find)) > 0 {
			out = append(out, hide)
		}
	}
	return out
}

func sameRegister(a, b api.HideRegister) bool {
	return a.Off == b.Off && a.Mends == b.Mends && a.Along == b.Along && a.Across == b.Across && slices.Equal(a.Kinds, b.Kinds) && slices.EqualFunc(a.Hides, b.Hides, func(x, y []int) bool { return slices.Equal(x, y) })
}

// isZero reports whether a result is its zero value; a list may be nil or empty.
func isZero(result any) bool {
	v := reflect.ValueOf(result)
	if v.Kind() == reflect.Slice {
		return v.Len() == 0
	}
	return v.IsZero()
}

// met counts how often something was met in a test.
type met map[string]int

func (m met) note(things ...any) { m[fmt.Sprint(things...)]++ }

func (m met) atLeast(t *testing.T, many int, things ...string) {
	t.Helper()
	for _, thing := range things {
		if m[thing] < many {
			t.Error(thing, "was met too rarely:", m)
		}
	}
}
