package dalang

import (
	"iter"
	"slices"

	"kelir/api"
	"kelir/cue"
)

// standing is what stands at a desk: its suite, whose plan may have another Begin, and what all entries that stand did.
type standing struct {
	api.DalangSuite
	// numbers are those of the entries that stand.
	numbers  []int
	night    int
	evenings []api.CueEvening
	now      api.CueEvening
	played   []int
	away     map[int]bool
	// packing is that of the chest. A suite has figures, so it is empty only if the chest is not packed.
	packing []int
}

func (d *Desk) isOpen() bool { return d != nil && d.open }

// numbers returns those of the entries that stand.
func (d *Desk) numbers() []int {
	var list []int
	for n, x := range d.entries {
		if x.Kind == api.DalangUndo {
			list = list[:len(list)-1]
		} else {
			list = append(list, n)
		}
	}
	return list
}

// entered goes through the entries that stand, with their numbers, in order.
func (d *Desk) entered() iter.Seq2[int, entry] {
	return func(yield func(int, entry) bool) {
		for _, n := range d.numbers() {
			if !yield(n, entryOf(d.entries[n])) {
				return
			}
		}
	}
}

func (d *Desk) stand() *standing {
	s := &standing{DalangSuite: d.suite, away: map[int]bool{}}
	for n, x := range d.entered() {
		s.numbers = append(s.numbers, n)
		s.do(x)
	}
	return s
}

// do does what an entry does that goes. What an undo does is that others do not stand.
func (s *standing) do(x entry) {
	switch made := x.(type) {
	case waitEntry:
		s.night += made.nights
	case beginEntry:
		s.Plan.Begin = made.minute
	case cueEntry:
		s.now = made.after(s.now)
	case restEntry:
		s.evenings = append(s.evenings, s.now)
		s.now = api.CueEvening{}
	case playEntry:
		s.played = append(s.played, made.scene)
	case lendEntry:
		s.away[made.figure] = true
	case backEntry:
		delete(s.away, made.figure)
	case packEntry:
		s.packing = made.layers
	case unpackEntry:
		s.packing = nil
	}
}

// refused is why an entry is given up: it does not go.
type refused struct{}

func (s *standing) insist(x entry) {
	if !x.goes(s) {
		panic(refused{})
	}
}

// enter makes an entry that is formed, if it goes.
func (d *Desk) enter(x api.DalangEntry) (e api.Errno) {
	defer func() {
		switch given := recover().(type) {
		case nil:
		case refused:
			e = api.ErrRule
		default:
			panic(given)
		}
	}()
	d.stand().insist(entryOf(x))
	// Without room behind them, the entries are not shared with a copy of the desk.
	d.entries = append(slices.Clip(d.entries), copyOfEntry(x))
	return api.OK
}

// remaining returns the versions that remain after all evenings, with what is going on; none if that is no evening.
func (s *standing) remaining(now api.CueEvening) []int {
	// Layer 4 may not take what is going on as one evening more, so it is asked of twice.
	before, _ := cue.Remains(s.Book, s.evenings)
	still, _ := cue.Remains(s.Book, []api.CueEvening{now})
	var list []int
	for _, version := range before {
		if slices.Contains(still, version) {
			list = append(list, version)
		}
	}
	return list
}

func (s *standing) isPacked() bool { return len(s.packing) > 0 }

func (s *standing) hasFigure(figure int) bool { return within(figure, 0, len(s.Play.Figures)-1) }

func (s *standing) hasScene(scene int) bool { return within(scene, 0, len(s.Play.Scenes)-1) }

// hasAllOf reports whether all figures of a scene are at home.
func (s *standing) hasAllOf(scene api.StemScene) bool {
	has := true
search:
	for _, figures := range [...][]int{scene.Moved, scene.Rest} {
		for _, figure := range figures {
			if s.away[figure] {
				has = false
				break search
			}
		}
	}
	return has
}

// home returns all figures that are at home.
func (s *standing) home() []int {
	var list []int
	for figure := range len(s.Play.Figures) {
		if !s.away[figure] {
			list = append(list, figure)
		}
	}
	return list
}
