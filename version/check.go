package version

import (
	"slices"

	"kelir/api"
)

func argument(good bool) api.Errno {
	if good {
		return api.OK
	}
	return api.ErrArg
}

func within(n, low, high int) bool { return low <= n && n <= high }

func goodBook(b api.VersionBook) bool {
	if !within(b.Words, 1, api.VersionWords) || !within(len(b.Copies), 1, api.VersionCopies) || !within(lineCount(b), 1, api.VersionLines) {
		return false
	}
	for _, lines := range b.Copies {
		bad := func(l api.VersionLine) bool { return !goodLine(b, l.Words) || l.Lost && len(l.Words) > 0 }
		if len(lines) != lineCount(b) || slices.ContainsFunc(lines, bad) {
			return false
		}
	}
	return true
}

// lineCount returns how many lines each copy of a book has.
func lineCount(b api.VersionBook) int { return len(b.Copies[0]) }

func goodLine(b api.VersionBook, words []int) bool {
	bad := func(word int) bool { return !within(word, 0, b.Words-1) }
	return len(words) <= api.VersionLong && !slices.ContainsFunc(words, bad)
}

func hasLine(b api.VersionBook, line int) bool { return within(line, 0, lineCount(b)-1) }

func hasCopy(b api.VersionBook, copy int) bool { return within(copy, 0, len(b.Copies)-1) }

func goodText(b api.VersionBook, text [][]int) bool {
	bad := func(words []int) bool { return !goodLine(b, words) }
	return len(text) == lineCount(b) && !slices.ContainsFunc(text, bad)
}

// goodSources reports whether a list has the text or a copy for each copy, whether they lead to the text or not.
func goodSources(b api.VersionBook, tree []int) bool {
	bad := func(from int) bool { return from != fromText && !hasCopy(b, from) }
	return len(tree) == len(b.Copies) && !slices.ContainsFunc(tree, bad)
}
