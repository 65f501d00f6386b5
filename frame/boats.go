package frame

import (
	"iter"

	"ribband/terms"
)

// boats yields all boats, the least list first.
func (c checked) boats() iter.Seq[breadths] {
	return func(yield func(breadths) bool) {
		var x breadths
		var fill func(point int) bool
		fill = func(point int) bool {
			if point == len(c.Points) {
				return !c.agrees(x) || yield(x)
			}
			span := c.Points[point].Breadth
			for breadth := span.Low; breadth <= span.High; breadth++ {
				x[point] = breadth
				if !fill(point + 1) {
					return false
				}
			}
			return true
		}
		fill(0)
	}
}

// agrees tells whether all tapes and sticks are right about breadths.
func (b book) agrees(x breadths) bool {
	for _, k := range b.Sticks {
		if (stick{level{b, k.Height}, k.Long}).fits(x) != k.Fits {
			return false
		}
	}
	girths := b.girths(x)
	for _, t := range b.Tapes {
		if !terms.Has(t.Girth, girths[stretch{t.From, t.To}]) {
			return false
		}
	}
	return true
}

// tally counts the boats by their breadths.
func (c checked) tally() terms.Tally { return terms.TallyOf(c.boats(), c.list) }
