package dalang

import (
	"slices"

	"kelir/api"
	"kelir/chest"
	"kelir/hide"
	"kelir/stem"
)

// entry is one that is formed, as what it does.
type entry interface {
	// goes reports whether it goes after what stands.
	goes(s *standing) bool
}

type waitEntry struct{ nights int }

type beginEntry struct{ minute int }

type cueEntry struct{ cue, tune int }

type restEntry struct{}

type playEntry struct{ scene int }

type lendEntry struct{ figure int }

type backEntry struct {
	figure   int
	readings []int
}

type packEntry struct{ layers []int }

type unpackEntry struct{}

type undoEntry struct{}

// unnoted stands for a tune that was not noted.
const unnoted = -1

func entryOf(x api.DalangEntry) entry {
	n := x.Numbers
	switch x.Kind {
	case api.DalangWait:
		return waitEntry{n[0]}
	case api.DalangBegin:
		return beginEntry{n[0]}
	case api.DalangCue:
		return cueEntry{n[0], n[1]}
	case api.DalangKnock:
		return cueEntry{n[0], unnoted}
	case api.DalangRest:
		return restEntry{}
	case api.DalangPlay:
		return playEntry{n[0]}
	case api.DalangLend:
		return lendEntry{n[0]}
	case api.DalangBack:
		return backEntry{n[0], n[1:]}
	case api.DalangPack:
		return packEntry{n}
	case api.DalangUnpack:
		return unpackEntry{}
	}
	return undoEntry{}
}

func (x waitEntry) goes(s *standing) bool {
	return x.nights >= 1 && s.night+x.nights <= api.DalangNights
}

func (x beginEntry) goes(s *standing) bool {
	p := s.Plan
	p.Begin = x.minute
	return isPossible(p)
}

// after returns what is going on with one cue more.
func (x cueEntry) after(now api.CueEvening) api.CueEvening {
	return api.CueEvening{Cues: append(slices.Clone(now.Cues), x.cue), Tunes: append(slices.Clone(now.Tunes), x.tune)}
}

func (x cueEntry) goes(s *standing) bool { return len(s.remaining(x.after(s.now))) > 0 }

func (x restEntry) goes(s *standing) bool {
	return len(s.now.Cues) > 0 && len(s.evenings) < api.CueEvenings
}

func (x playEntry) goes(s *standing) bool {
	// For a scene that there is not, layer 5 returns false, too.
	can, _ := stem.Can(s.Play, x.scene)
	return can && s.hasAllOf(s.Play.Scenes[x.scene]) && !s.isPacked()
}

func (x lendEntry) goes(s *standing) bool {
	return s.hasFigure(x.figure) && !s.away[x.figure] && !s.isPacked()
}

func (x backEntry) goes(s *standing) bool {
	if !s.away[x.figure] {
		return false
	}
	hides, e := hide.Who(s.Register, x.readings)
	return e == api.OK && hides[x.figure] != api.HideNever
}

func (x packEntry) goes(s *standing) bool {
	_, e := chest.Wrong(s.Chest, x.layers)
	// Layer 8 finds no fault.
	return e == api.ErrNone && !s.isPacked() && len(s.away) == 0
}

func (x unpackEntry) goes(s *standing) bool { return s.isPacked() }

func (x undoEntry) goes(s *standing) bool { return len(s.numbers) > 0 }
