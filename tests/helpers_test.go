package tests

import "slices"

// withRoom is a list of the same entries, behind which there is room that holds others.
func withRoom[T any](list []T, others ...T) []T {
	full := append(slices.Clone(list), others...)
	return full[:len(list):len(full)]
}

// wholeOf is a copy of a list together with the room behind it.
func wholeOf[T any](list []T) []T {
	return slices.Clone(list[:cap(list)])
}

// scribble overwrites a list and the room behind it.
func scribble[T any](list []T, entry T) {
	list = list[:cap(list)]
	for i := range list {
		list[i] = entry
	}
}

func between(n, least, most int) bool {
	return n >= least && n <= most
}
