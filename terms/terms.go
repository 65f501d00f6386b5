// Package terms has what the sections Terms and Rules of shared/DOC.md say for all layers: spans, names, lists, checks, choices among boats, and texts.
package terms

import (
	"cmp"
	"iter"
	"slices"

	"ribband/api"
)

// IsSpan tells whether x is a span from a number to another one.
func IsSpan(x api.Span, from, to int) bool {
	return from <= x.Low && x.Low <= x.High && x.High <= to
}

// Common returns what two spans have in common, and whether that is anything.
func Common(x, y api.Span) (api.Span, bool) {
	both := api.Span{Low: max(x.Low, y.Low), High: min(x.High, y.High)}
	if both.Low > both.High {
		return api.Span{}, false
	}
	return both, true
}

// Has tells whether a number is in a span.
func Has(x api.Span, n int) bool { return x.Low <= n && n <= x.High }

// UpTo returns the span from 1 to a number.
func UpTo(most int) api.Span { return api.Span{Low: 1, High: most} }

// Join returns the span from the least to the greatest number of spans.
func Join(x api.Span, others ...api.Span) api.Span {
	for _, y := range others {
		x = api.Span{Low: min(x.Low, y.Low), High: max(x.High, y.High)}
	}
	return x
}

// Highest returns the greatest one of several.
func Highest[T cmp.Ordered](first T, others ...T) T {
	for _, x := range others {
		first = max(first, x)
	}
	return first
}

// Lowest returns the least one of several.
func Lowest[T cmp.Ordered](first T, others ...T) T {
	for _, x := range others {
		first = min(first, x)
	}
	return first
}

// IsName tells whether a string is a name.
func IsName(name string) bool {
	if len(name) < 1 || len(name) > api.MaxName {
		return false
	}
	for i, letter := range name {
		digit := letter >= '0' && letter <= '9'
		if (letter < 'a' || letter > 'z') && (i == 0 || !digit) {
			return false
		}
	}
	return true
}

// Pick returns the elements of a list that have these indexes.
func Pick[T any](list []T, indexes []int) []T {
	var some []T
	for _, i := range indexes {
		some = append(some, list[i])
	}
	return some
}

// Sum returns what numbers are together.
func Sum(numbers ...int) int {
	sum := 0
	for _, n := range numbers {
		sum += n
	}
	return sum
}

// SureOf tells how sure is what is so in many boats of all.
func SureOf(many, all int) api.Sure {
	switch many {
	case 0:
		return api.No
	case all:
		return api.Yes
	}
	return api.Open
}

// Lists yields the ascending lists of indexes below n with most of them at most: the shortest ones first, of these the least ones.
func Lists(n, most int) iter.Seq[[]int] {
	return func(yield func([]int) bool) {
		var grow func(list []int, from, size int) bool
		grow = func(list []int, from, size int) bool {
			if len(list) == size {
				return yield(slices.Clone(list))
			}
			for i := from; i < n; i++ {
				if !grow(append(list, i), i+1, size) {
					return false
				}
			}
			return true
		}
		for size := range min(n, most) + 1 {
			if !grow(nil, 0, size) {
				return
			}
		}
	}
}

// Choices yields the lists that have a number of each span, the least one first.
func Choices(spans ...api.Span) iter.Seq[[]int] {
	return func(yield func([]int) bool) {
		list := make([]int, len(spans))
		var fill func(i int) bool
		fill = func(i int) bool {
			if i == len(spans) {
				return yield(slices.Clone(list))
			}
			for n := spans[i].Low; n <= spans[i].High; n++ {
				list[i] = n
				if !fill(i + 1) {
					return false
				}
			}
			return true
		}
		fill(0)
	}
}

// Clash returns the first one of the lists of indexes below n with which alone there is no boat, if there is one: the fewest indexes, and of several lists the least one.
func Clash(n int, isBoat func(list []int) bool) (list []int, found bool) {
	for list := range Lists(n, n) {
		if !isBoat(list) {
			return list, true
		}
	}
	return nil, false
}
