package joint

import "kelir/api"

func argument(good bool) api.Errno {
	if good {
		return api.OK
	}
	return api.ErrArg
}

func within(n, low, high int) bool { return low <= n && n <= high }

// goodSpan reports whether a span is not empty and lies between -far and far.
func goodSpan(s api.Span, far int) bool {
	return within(s.Low, -far, far) && within(s.High, s.Low, far)
}

func goodFigure(f api.JointFigure) bool {
	if !within(f.Stand, 0, int(directions)-1) || !within(len(f.Limbs), 1, api.JointLimbs) {
		return false
	}
	poses := 1
	for n, limb := range f.Limbs {
		if !within(limb.Parent, -1, n-1) || !within(limb.Length, 1, api.JointLength) ||
			!goodSpan(turnsOfLimb(limb), api.JointBend) || !within(limb.Wear, 0, api.JointWear) {
			return false
		}
		poses *= limb.High - limb.Low + 1
	}
	return poses <= api.JointPoses
}

func goodLimb(f api.JointFigure, limb int) bool { return within(limb, 0, len(f.Limbs)-1) }

func goodPose(f api.JointFigure, pose []int) bool {
	if len(pose) != len(f.Limbs) {
		return false
	}
	for n, limb := range f.Limbs {
		if !within(pose[n], limb.Low, limb.High) {
			return false
		}
	}
	return true
}

func goodField(f api.JointField) bool {
	return goodSpan(f.X, api.JointFar) && goodSpan(f.Y, api.JointFar)
}

// goodStage reports whether a stage is as defined for a figure.
func goodStage(f api.JointFigure, s api.JointStage) bool {
	return goodField(s.Edge) &&
		len(s.Hands) == 2 && goodField(s.Hands[0]) && goodField(s.Hands[1]) &&
		len(s.Rods) == 2 && goodLimb(f, s.Rods[0]) && goodLimb(f, s.Rods[1]) && s.Rods[0] != s.Rods[1]
}
