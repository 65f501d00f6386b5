package terms

import (
	"slices"

	"ribband/api"
)

// Check is a way in which something can be wrong, and its snag.
type Check[T any] struct {
	Wrong func(T) bool
	Snag  api.Snag
}

// SnagOf returns the snag of the first check that finds something wrong.
func SnagOf[T any](x T, checks []Check[T]) api.Snag {
	for _, c := range checks {
		if c.Wrong(x) {
			return c.Snag
		}
	}
	return api.Clear
}

// IsIndex tells whether i is the index of one of so many elements.
func IsIndex(i, many int) bool { return i >= 0 && i < many }

// IsOut tells whether a number is not from 0 to most.
func IsOut(n, most int) bool { return n < 0 || n > most }

// NumbersSnag returns the snag of a list that is to have so many numbers, each of them one of a span.
func NumbersSnag(list []int, many int, x api.Span) api.Snag {
	if len(list) != many {
		return api.Many
	}
	if slices.ContainsFunc(list, func(n int) bool { return !Has(x, n) }) {
		return api.Range
	}
	return api.Clear
}

// IndexesSnag returns the snag of a list that is to have indexes of so many elements, ascending.
func IndexesSnag(list []int, many int) api.Snag {
	return AscendingSnag(list, api.Span{High: many - 1})
}

// AscendingSnag returns the snag of a list that is to have numbers of a span, ascending, and none that is not there.
func AscendingSnag(list []int, x api.Span) api.Snag {
	for i, n := range list {
		if !Has(x, n) {
			return api.Absent
		}
		if i > 0 && n <= list[i-1] {
			return api.Turned
		}
	}
	return api.Clear
}

// SumSnag returns the snag of what says that some of so many elements are a sum together, which is at most so much.
func SumSnag(indexes []int, many int, sum api.Span, most int) api.Snag {
	if len(indexes) == 0 {
		return api.Many
	}
	if s := IndexesSnag(indexes, many); s != api.Clear {
		return s
	}
	if !IsSpan(sum, 0, most) {
		return api.Range
	}
	return api.Clear
}

// IsSum tells whether some of several numbers are one of a span together.
func IsSum(numbers, indexes []int, sum api.Span) bool {
	return Has(sum, Sum(Pick(numbers, indexes)...))
}

// EachSnag returns the first snag of so many elements, in order.
func EachSnag(many int, snag func(i int) api.Snag) api.Snag {
	for i := range many {
		if s := snag(i); s != api.Clear {
			return s
		}
	}
	return api.Clear
}
