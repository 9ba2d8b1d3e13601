package cue

import "kelir/api"

func argument(good bool) api.Errno {
	if good {
		return api.OK
	}
	return api.ErrArg
}

func within(n, low, high int) bool { return low <= n && n <= high }

func goodBook(b api.CueBook) bool {
	if !within(b.Cues, 1, api.CueKinds) || !within(b.Tunes, 1, api.CueTunes) || !within(len(b.Versions), 1, api.CueVersions) {
		return false
	}
	for _, v := range b.Versions {
		if !goodStates(b, v) {
			return false
		}
	}
	return true
}

func goodStates(b api.CueBook, v api.CueVersion) bool {
	if !within(len(v.States), 1, api.CueStates) {
		return false
	}
	for _, moves := range v.States {
		if len(moves) != b.Cues {
			return false
		}
		for _, m := range moves {
			if !within(m.Next, 0, len(v.States)-1) || !goodTune(b, m.Tune) {
				return false
			}
		}
	}
	return true
}

func goodTune(b api.CueBook, tune int) bool { return within(tune, 0, b.Tunes-1) }

// goodVersion reports whether a book, which is as defined, has a version.
func goodVersion(b api.CueBook, version int) bool { return within(version, 0, len(b.Versions)-1) }

func goodCues(b api.CueBook, cues []int) bool {
	for _, cue := range cues {
		if !within(cue, 0, b.Cues-1) {
			return false
		}
	}
	return len(cues) <= api.CueLong
}

// goodHeard reports whether a list has tunes, or -1 where a tune was not noted.
func goodHeard(b api.CueBook, tunes []int) bool {
	for _, tune := range tunes {
		if tune != unnoted && !goodTune(b, tune) {
			return false
		}
	}
	return len(tunes) <= api.CueLong
}

func goodEvening(b api.CueBook, e api.CueEvening) bool {
	return goodCues(b, e.Cues) && goodHeard(b, e.Tunes) && len(e.Cues) == len(e.Tunes)
}

func goodEvenings(b api.CueBook, evenings []api.CueEvening) bool {
	for _, e := range evenings {
		if !goodEvening(b, e) {
			return false
		}
	}
	return len(evenings) <= api.CueEvenings
}
