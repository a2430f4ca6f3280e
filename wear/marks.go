package wear

import (
	"slices"

	"thatch/api"
)

func compareMarks(a, b api.Mark) int { return comparePoints(a.At, b.At) }

// joined returns the mark that says what two marks of one point say.
func joined(a, b api.Mark) api.Mark {
	return api.Mark{At: a.At, Thick: common(a.Thick, b.Thick)}
}

// areInOrder reports whether each element of a list is less than the next one.
func areInOrder[T any](list []T, compare func(a, b T) int) bool {
	for i := 1; i < len(list); i++ {
		if compare(list[i-1], list[i]) >= 0 {
			return false
		}
	}
	return true
}

// with returns what a list in order becomes with one element more: it is in its place, or is joined with the one that has this place.
func with[T any](list []T, x T, compare func(a, b T) int, join func(a, b T) T) []T {
	i, there := slices.BinarySearchFunc(list, x, compare)
	list = slices.Clone(list)
	if !there {
		return slices.Insert(list, i, x)
	}
	list[i] = join(list[i], x)
	return list
}
