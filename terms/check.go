package terms

import (
	"slices"

	"ribband/api"
)

// Check is a way in which something can be wrong, and its snag.
type Check[T any] struct {
	Wrong func(T) bool
	Snag  api.Snag
}

// SnagOf returns the snag of the first check that finds something wrong.
func SnagOf[T any](x T, checks []Check[T]) api.Snag {
	for _, c := range checks {
		if c.Wrong(x) {
			return c.Snag
		}
	}
	return api.Clear
}

// IsIndex tells whether i is the index of one of so many elements.
func IsIndex(i, many int) bool { return i >= 0 && i < many }

// IsOut tells whether a number is not from 0 to most.
func IsOut(n, most int) bool { return n < 0 || n > most }

// NumbersSnag returns the snag of a list that is to have so many numbers, each of them from 0 to most.
func NumbersSnag(list []int, many, most int) api.Snag {
	if len(list) != many {
		return api.Many
	}
	if slices.ContainsFunc(list, func(n int) bool { return IsOut(n, most) }) {
		return api.Range
	}
	return api.Clear
}
