package frame

import (
	"iter"

	"ribband/api"
	"ribband/terms"
)

// boats yields all boats, the least list first.
func (c checked) boats() iter.Seq[breadths] {
	return func(yield func(breadths) bool) {
		for list := range terms.Choices(c.spans()...) {
			if x := breadthsOf(list); c.agrees(x) && !yield(x) {
				return
			}
		}
	}
}

// spans returns the breadths that each point can have.
func (b book) spans() []api.Span {
	var list []api.Span
	for _, p := range b.Points {
		list = append(list, p.Breadth)
	}
	return list
}

// agrees tells whether all tapes and sticks are right about breadths.
func (b book) agrees(x breadths) bool {
	for _, k := range b.Sticks {
		if (stick{level{b, k.Height}, k.Long}).fits(x) != k.Fits {
			return false
		}
	}
	girths := b.girths(x)
	for _, t := range b.Tapes {
		if !terms.Has(t.Girth, girths[stretch{t.From, t.To}]) {
			return false
		}
	}
	return true
}

// tally counts the boats by their breadths.
func (c checked) tally() terms.Tally { return terms.TallyOf(c.boats(), c.list) }
