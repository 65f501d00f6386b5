package spile

import (
	"iter"
	"slices"

	"ribband/api"
	"ribband/terms"
)

// allowed returns none, and behind it all slips that the book allows, by Before, then by By.
func (b book) allowed() []api.SpileSlip {
	list := []api.SpileSlip{{}}
	for before := 1; before < len(b.Points); before++ {
		for by := -b.Slip; by <= b.Slip; by++ {
			if by != 0 {
				list = append(list, api.SpileSlip{Before: before, By: by})
			}
		}
	}
	return list
}

// boats yields all boats: those of the first slip first, and of these the least marks.
func (c checked) boats() iter.Seq[boat] {
	return func(yield func(boat) bool) {
		for _, k := range c.allowed() {
			for list := range terms.Choices(c.marks()...) {
				if x := (boat{rowOf(list), k}); c.agrees(x) && !yield(x) {
					return
				}
			}
		}
	}
}

// marks returns the numbers that the mark of each point can be.
func (b book) marks() []api.Span {
	var list []api.Span
	for _, p := range b.Points {
		list = append(list, p.Mark)
	}
	return list
}

// agrees tells whether all checks are right about a boat.
func (b book) agrees(x boat) bool {
	gaps := b.gaps(x)
	return !slices.ContainsFunc(b.Checks, func(c api.SpileCheck) bool { return !terms.Has(c.Gap, gaps[c.Point]) })
}

// tally counts the boats by their gaps.
func (c checked) tally() terms.Tally {
	return terms.TallyOf(c.boats(), func(x boat) []int { return c.list(c.gaps(x)) })
}

// slips returns the slips of all boats, but for none, by Before, then by By. It has a snag if there is no boat.
func (c checked) slips() ([]api.SpileSlip, api.Snag) {
	if !terms.IsAny(c.boats()) {
		return nil, api.Foul
	}
	var list []api.SpileSlip
	for x := range c.boats() {
		if x.hasSlipped() {
			list = append(list, x.slip)
		}
	}
	return slices.Compact(list), api.Clear // boats with the same slip follow each other
}
