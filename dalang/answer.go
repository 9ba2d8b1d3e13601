package dalang

import (
	"kelir/api"
	"kelir/chest"
	"kelir/cue"
	"kelir/night"
	"kelir/stem"
)

// answer returns the answer to a question with these numbers, as many as the question has.
type answer func(s *standing, numbers []int) ([]int, api.Errno)

// answers returns those to all questions, in the order of their kinds.
func answers() [api.DalangStands]answer {
	return [...]answer{
		(*standing).tellNight,
		(*standing).tellProgramme,
		(*standing).tellEnds,
		(*standing).tellRemains,
		(*standing).tellAsk,
		(*standing).tellNever,
		(*standing).tellHome,
		(*standing).tellPlayed,
		(*standing).tellCan,
		(*standing).tellFirst,
		(*standing).tellOut,
		(*standing).tellBest,
		(*standing).tellStands,
	}
}

func (s *standing) tellNight([]int) ([]int, api.Errno) { return []int{s.night}, api.OK }

func (s *standing) tellProgramme([]int) ([]int, api.Errno) {
	choice, _, e := night.Programme(s.Plan)
	return choice, e
}

func (s *standing) tellEnds([]int) ([]int, api.Errno) {
	spans, e := night.Ends(s.Plan)
	var list []int
	for _, span := range spans {
		list = append(list, span.Low, span.High)
	}
	return list, e
}

func (s *standing) tellRemains([]int) ([]int, api.Errno) { return s.remaining(s.now), api.OK }

func (s *standing) tellAsk([]int) ([]int, api.Errno) {
	first, number, e := cue.Ask(s.Book, s.evenings, s.now)
	if e != api.OK {
		return nil, e
	}
	return []int{first, number}, api.OK
}

func (s *standing) tellNever(numbers []int) ([]int, api.Errno) {
	return cue.Never(s.Book, s.evenings, s.now, numbers[0])
}

func (s *standing) tellHome([]int) ([]int, api.Errno) { return s.home(), api.OK }

func (s *standing) tellPlayed([]int) ([]int, api.Errno) { return s.played, api.OK }

func (s *standing) tellCan(numbers []int) ([]int, api.Errno) {
	if !s.hasScene(numbers[0]) {
		return nil, api.ErrArg
	}
	if (playEntry{numbers[0]}).goes(s) {
		return []int{1}, api.OK
	}
	return []int{0}, api.OK
}

func (s *standing) tellFirst(numbers []int) ([]int, api.Errno) {
	return stem.First(s.Play, numbers[0])
}

func (s *standing) tellOut(numbers []int) ([]int, api.Errno) {
	if !s.hasFigure(numbers[0]) {
		return nil, api.ErrArg
	}
	if !s.isPacked() {
		return nil, api.ErrRule
	}
	return chest.Out(s.Chest, s.packing, numbers)
}

func (s *standing) tellBest([]int) ([]int, api.Errno) {
	packing, _, e := chest.Best(s.Chest)
	return packing, e
}

func (s *standing) tellStands([]int) ([]int, api.Errno) { return s.numbers, api.OK }
