package offsets

import (
	"ribband/api"
	"ribband/terms"
)

// clash returns the fewest cells that contradict each other.
func (c checked) clash() []int {
	if terms.IsAny(c.boatsWith(nil)) {
		return nil
	}
	for list := range terms.Lists(len(c.cells), len(c.cells)) {
		if !terms.IsAny(c.boatsWith(c.without(list))) {
			return list
		}
	}
	return nil
}

// without returns the indexes of all cells that are not in an ascending list.
func (c checked) without(list []int) []int {
	var others []int
	for i := range c.cells {
		if len(list) > 0 && list[0] == i {
			list = list[1:]
		} else {
			others = append(others, i)
		}
	}
	return others
}

// ask returns the cell whose measure leaves the fewest boats in the worst case, and how many these are.
func (c checked) ask(sum tally) (which api.OffsetsCell, left int, found bool) {
	left = sum.boats
	for i, x := range c.cells {
		worst := 0
		for _, many := range sum.with[i] {
			worst = max(worst, many)
		}
		if worst > 0 && worst < left {
			which, left, found = x.OffsetsCell, worst, true
		}
	}
	return which, left, found
}

// put returns the new table, unless it has a snag or no boat.
func (c checked) put(which api.OffsetsCell, figure string) (api.OffsetsTable, api.Snag) {
	t := c.with(which, figure)
	now, s := check(t)
	if s != api.Clear {
		return api.OffsetsTable{}, s
	}
	if !terms.IsAny(now.boats()) {
		return api.OffsetsTable{}, api.Foul
	}
	return t, api.Clear
}
