package cue_test

import (
	"fmt"
	"reflect"
	"slices"
	"testing"

	"kelir/api"
	"kelir/cue"
)

// P4.1 to P4.10: each function returns ErrArg, and nothing else, for a book that is not as defined.
func TestBadBooks(t *testing.T) {
	for i, b := range badBooks() {
		for name, call := range map[string]func() []any{
			"Plays":    func() []any { y, e := cue.Plays(b, 0, nil); return []any{y, e} },
			"Remains":  func() []any { y, e := cue.Remains(b, nil); return []any{y, e} },
			"Sure":     func() []any { y, e := cue.Sure(b, nil, nil); return []any{y, e} },
			"Count":    func() []any { n, y, e := cue.Count(b, 0, nil); return []any{n, y, e} },
			"Tell":     func() []any { y, e := cue.Tell(b, 0, 0); return []any{y, e} },
			"Settle":   func() []any { y, e := cue.Settle(b, nil); return []any{y, e} },
			"Ask":      func() []any { c, n, e := cue.Ask(b, nil, nothing()); return []any{c, n, e} },
			"Join":     func() []any { y, e := cue.Join(b, nil); return []any{y, e} },
			"Reduce":   func() []any { y, e := cue.Reduce(b, 0); return []any{y, e} },
			"Misheard": func() []any { y, n, e := cue.Misheard(b, 0, nil, nil); return []any{y, n, e} },
			"Danger":   func() []any { y, e := cue.Danger(b, 0, 0); return []any{y, e} },
			"Never":    func() []any { y, e := cue.Never(b, nil, nothing(), 0); return []any{y, e} },
			"Fence":    func() []any { y, e := cue.Fence(b, 0, 0); return []any{y, e} },
			"Print":    func() []any { y, e := cue.Print(b); return []any{y, e} },
		} {
			y := call()
			last := len(y) - 1
			if y[last] != api.ErrArg {
				t.Error(i, name, b, y)
			}
			for _, v := range y[:last] {
				if !reflect.ValueOf(v).IsZero() {
					t.Error(i, name, b, y)
				}
			}
		}
	}
}

// P0.4: musicians play what follows in every version that remains, and the fewest cues settle which one it is.
func TestMusicians(t *testing.T) {
	if y, e := cue.Sure(bookB(), evenings(eveningE()), l(0, 1, 0)); e != api.OK || !slices.Equal(y, l(0, 1, -1)) {
		t.Error(y, e)
	}
	if y, e := cue.Settle(bookB(), nil); e != api.OK || !slices.Equal(y, l(0, 1, 0, 0)) {
		t.Error(y, e)
	}
	if c, n, e := cue.Ask(bookB(), nil, nothing()); e != api.OK || c != 0 || n != 4 {
		t.Error(c, n, e)
	}
}

// Nil and empty lists are the same (R3).
func TestNilAndEmpty(t *testing.T) {
	list := []api.CueEvening{}
	for i, call := range []func(cues []int, evenings []api.CueEvening) any{
		func(cues []int, evenings []api.CueEvening) any {
			y, e := cue.Plays(bookB(), 0, cues)
			return fmt.Sprint(y, e)
		},
		func(cues []int, evenings []api.CueEvening) any {
			y, e := cue.Remains(bookB(), evenings)
			return fmt.Sprint(y, e)
		},
		func(cues []int, evenings []api.CueEvening) any {
			y, e := cue.Remains(bookB(), []api.CueEvening{evening(cues, nil)})
			return fmt.Sprint(y, e)
		},
		func(cues []int, evenings []api.CueEvening) any {
			y, n, e := cue.Ask(bookB(), evenings, evening(nil, cues))
			return fmt.Sprint(y, n, e)
		},
		func(cues []int, evenings []api.CueEvening) any {
			y, n, e := cue.Misheard(bookB(), 0, cues, nil)
			return fmt.Sprint(y, n, e)
		},
		func(cues []int, evenings []api.CueEvening) any {
			y, n, e := cue.Count(bookB(), 0, cues)
			return fmt.Sprint(y, n, e)
		},
	} {
		if one, other := call(nil, nil), call([]int{}, list); one != other {
			t.Error(i, one, other)
		}
	}
}

// cleared sets all that a result has to zero, as deep as it goes.
func cleared(v reflect.Value) {
	for n := range v.Len() {
		if v.Index(n).Kind() == reflect.Slice {
			cleared(v.Index(n))
		} else {
			v.Index(n).SetZero()
		}
	}
}

// No argument is changed, results share no memory, and two calls have equal results (R4, R8).
func TestMemory(t *testing.T) {
	b := bookB()
	text, _ := cue.Print(b)
	heard := append(make([]api.CueEvening, 0, 4), eveningE())
	now := evening(l(0), l(0))
	cues, tunes := l(0, 1, 0), l(-1, 1, -1)
	for i, call := range []func() any{
		func() any { y, _ := cue.Plays(b, 0, cues); return y },
		func() any { y, _ := cue.Remains(b, heard); return y },
		func() any { y, _ := cue.Sure(b, heard, cues); return y },
		func() any { _, y, _ := cue.Count(b, 0, tunes); return y },
		func() any { y, _ := cue.Tell(b, 0, 1); return y },
		func() any { y, _ := cue.Settle(b, heard); return y },
		func() any { y, _ := cue.Join(b, []api.CueEvening{eveningG()}); return y },
		func() any { y, _ := cue.Reduce(b, 0); return y.States },
		func() any { y, _, _ := cue.Misheard(b, 0, cues, tunes); return y },
		func() any { y, _ := cue.Danger(b, 0, 2); return y },
		func() any { y, _ := cue.Never(b, heard, now, 2); return y },
		func() any { y, _ := cue.Fence(b, 3, 1); return y },
		func() any { y, _ := cue.Read(text); return y.Versions[0].States },
	} {
		one, other := call(), call()
		before := fmt.Sprint(other)
		if fmt.Sprint(one) != before || reflect.ValueOf(one).Len() == 0 {
			t.Error(i, one, other)
		}
		cleared(reflect.ValueOf(one))
		if fmt.Sprint(other) != before || fmt.Sprint(call()) != before {
			t.Error(i, "results share memory", other)
		}
	}
	for range 2 {
		cue.Check(b)
		cue.Ask(b, heard, now)
		cue.Print(b)
	}
	kept := heard[:4]
	if !sameBook(b, bookB()) || !slices.Equal(cues, l(0, 1, 0)) || !slices.Equal(tunes, l(-1, 1, -1)) || !slices.Equal(now.Cues, l(0)) || !slices.Equal(now.Tunes, l(0)) {
		t.Error("an argument was changed")
	}
	if !slices.Equal(heard[0].Cues, l(0, 0)) || !slices.Equal(heard[0].Tunes, l(0, 2)) || kept[1].Cues != nil || kept[3].Tunes != nil {
		t.Error("an argument was changed behind its end", kept)
	}
	// two states of a version, and two versions of a book, share no memory
	y, _ := cue.Reduce(turningBook(), 0)
	want := fmt.Sprint(y.States[1:])
	y.States[0] = append(y.States[0][:0], moves(7, 7, 7, 7, 7, 7)...)
	if fmt.Sprint(y.States[1:]) != want {
		t.Error("states share memory", y)
	}
	z, _ := cue.Read(text)
	want = fmt.Sprint(z.Versions[1:])
	z.Versions[0].States = append(z.Versions[0].States[:0], nil, nil, nil)
	if fmt.Sprint(z.Versions[1:]) != want {
		t.Error("versions share memory", z)
	}
}
