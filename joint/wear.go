package joint

import (
	"slices"

	"kelir/api"
)

// truthsOf returns the bounds of the turns that can be true if a pose is put.
func truthsOf(f api.JointFigure, put pose) []api.Span {
	bounds := turnsOf(f)
	for n, limb := range f.Limbs {
		bounds[n].Low = max(limb.Low, put[n]-limb.Wear)
		bounds[n].High = min(limb.High, put[n]+limb.Wear)
	}
	return bounds
}

func (p puppet) word(put pose) api.JointWord {
	some, all := false, true
	for truth := range poses(truthsOf(p.JointFigure, put)) {
		is := p.fine(truth)
		some, all = some || is, all && is
	}
	switch {
	case all:
		return api.JointSurely
	case some:
		return api.JointMay
	default:
		return api.JointNever
	}
}

// proof returns the first truth that is not fine, and whether there is one.
func (p puppet) proof(put pose) (pose, bool) {
	for truth := range poses(truthsOf(p.JointFigure, put)) {
		if !p.fine(truth) {
			return truth, true
		}
	}
	return pose{}, false
}

// mended returns the figure on its stage when joints are mended.
func (p puppet) mended(joints []int) puppet {
	p.Limbs = slices.Clone(p.Limbs)
	for _, joint := range joints {
		p.Limbs[joint].Wear = 0
	}
	return p
}

func (p puppet) mends(list [][]int) ([]int, api.Errno) {
search:
	for _, joints := range choices(len(p.Limbs)) {
		mended := p.mended(joints)
		for _, put := range list {
			if _, found := mended.proof(poseOf(put)); found {
				continue search
			}
		}
		return joints, api.OK
	}
	return nil, api.ErrNone
}

// choices returns all lists of joints, shorter ones first, and those of one length in order.
func choices(joints int) [][]int {
	var lists [][]int
	// A joint that is chosen is 0 and another one 1: then lists of one length come in order.
	for one := range poses(slices.Repeat([]api.Span{{Low: 0, High: 1}}, joints)) {
		var list []int
		for joint := range joints {
			if one[joint] == 0 {
				list = append(list, joint)
			}
		}
		lists = append(lists, list)
	}
	slices.SortStableFunc(lists, func(a, b []int) int { return len(a) - len(b) })
	return lists
}
