package terms

import "slices"

// Steps returns by how much each number is above the one before it.
func Steps(list []int) []int {
	out := make([]int, max(len(list), 1)-1)
	for i := range out {
		out[i] = list[i+1] - list[i]
	}
	return out
}

// Bends returns by how much a line rises more behind a station than before it: that is the bend there.
func Bends(line []int) []int { return Steps(Steps(line)) }

// AllWithin tells whether no number is above most, or below -most.
func AllWithin(list []int, most int) bool {
	return !slices.ContainsFunc(list, func(n int) bool { return n > most || n < -most })
}
