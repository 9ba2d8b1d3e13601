package dalang

import (
	"slices"

	"kelir/api"
)

// copies returns a list with a copy of each thing of a list.
func copies[T any](list []T, copyOf func(T) T) []T {
	var all []T
	for _, thing := range list {
		all = append(all, copyOf(thing))
	}
	return all
}

func copyOfSuite(s api.DalangSuite) api.DalangSuite {
	s.Plan.Scenes = slices.Clone(s.Plan.Scenes)
	s.Book.Versions = copies(s.Book.Versions, copyOfVersion)
	s.Play.Heights = slices.Clone(s.Play.Heights)
	s.Play.Figures = slices.Clone(s.Play.Figures)
	s.Play.Scenes = copies(s.Play.Scenes, copyOfScene)
	s.Register.Kinds = slices.Clone(s.Register.Kinds)
	s.Register.Hides = copies(s.Register.Hides, slices.Clone[[]int])
	s.Chest.Figures = slices.Clone(s.Chest.Figures)
	return s
}

func copyOfVersion(v api.CueVersion) api.CueVersion {
	v.States = copies(v.States, slices.Clone[[]api.CueMove])
	return v
}

func copyOfScene(s api.StemScene) api.StemScene {
	s.Moved, s.Rest, s.Taken = slices.Clone(s.Moved), slices.Clone(s.Rest), slices.Clone(s.Taken)
	return s
}

func copyOfEntry(x api.DalangEntry) api.DalangEntry {
	x.Numbers = slices.Clone(x.Numbers)
	return x
}
