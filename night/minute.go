package night

import "kelir/api"

// minutes are those from Low to High; they are none if Low is greater.
type minutes api.Span

func (m minutes) earliest() int { return m.Low }

func (m minutes) latest() int { return m.High }

// at is a single minute.
func at(minute int) minutes { return minutes{minute, minute} }

func (m minutes) none() bool { return m.Low > m.High }

func (m minutes) has(other minutes) bool { return m.Low <= other.Low && other.High <= m.High }

// both returns the minutes that are among these and among other ones.
func (m minutes) both(other minutes) minutes {
	return minutes{max(m.Low, other.Low), min(m.High, other.High)}
}

// plus returns each sum of one of these minutes and one of other ones.
func (m minutes) plus(other minutes) minutes {
	return minutes{m.Low + other.Low, m.High + other.High}
}

// minus returns each difference of one of these minutes and one of other ones.
func (m minutes) minus(other minutes) minutes {
	return minutes{m.Low - other.High, m.High - other.Low}
}

// bounds returns the minutes from the earliest to the latest one of a list that is not empty.
func bounds(list []minutes) minutes {
	all := list[0]
	for _, m := range list {
		all = minutes{min(all.Low, m.Low), max(all.High, m.High)}
	}
	return all
}

func sum(lengths ...int) int {
	all := 0
	for _, n := range lengths {
		all += n
	}
	return all
}
