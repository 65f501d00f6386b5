package bevel

import (
	"slices"

	"ribband/api"
	"ribband/terms"
)

// fewest returns the fewest readings of which something is so, and of several lists the least one; none if it is so of no list. It is asked about all lists at once.
func (c checked) fewest(isSo func(readings []int) bool) []int {
	all := slices.Collect(terms.Lists(c.readings(), c.readings()))
	best, _ := terms.Best(slices.Values(terms.Which(all, isSo)), terms.Least(length), slices.Compare)
	return best
}

func length(list []int) int { return len(list) }

// canMiss tells whether all readings but these can be right together.
func (c checked) canMiss(readings []int) bool {
	return terms.IsAny(c.reckoner().boatsWith(readings))
}

// clash tells whether these readings can not be right together.
func (c checked) clash(readings []int) bool {
	c.Readings = terms.Pick(c.Readings, readings)
	return !c.canMiss(nil)
}

// copyOf returns a book in memory of its own.
func copyOf(b api.BevelBook) api.BevelBook {
	b.Offsets = slices.Clone(b.Offsets)
	b.Readings = slices.Clone(b.Readings)
	return b
}

// news returns a new book in memory of its own, unless it has a snag or no boat.
func news(b api.BevelBook) (api.BevelBook, api.Snag) {
	c, s := open(b)
	if s != api.Clear {
		return api.BevelBook{}, s
	}
	if !terms.IsAny(c.boats()) {
		return api.BevelBook{}, api.Foul
	}
	return copyOf(b), api.Clear
}
