package frame

import (
	"iter"

	"ribband/api"
	"ribband/terms"
)

// boats yields all boats, the least list first.
func (c checked) boats() iter.Seq[breadths] {
	return func(yield func(breadths) bool) {
		var x breadths
		var fill func(point int) bool
		fill = func(point int) bool {
			if point == len(c.Points) {
				return !c.agrees(x) || yield(x)
			}
			span := c.Points[point].Breadth
			for breadth := span.Low; breadth <= span.High; breadth++ {
				x[point] = breadth
				if !fill(point + 1) {
					return false
				}
			}
			return true
		}
		fill(0)
	}
}

// agrees tells whether all tapes and sticks are right about breadths.
func (b book) agrees(x breadths) bool {
	for _, k := range b.Sticks {
		if (stick{level{b, k.Height}, k.Long}).fits(x) != k.Fits {
			return false
		}
	}
	girths := b.girths(x)
	for _, t := range b.Tapes {
		if !terms.Has(t.Girth, girths[stretch{t.From, t.To}]) {
			return false
		}
	}
	return true
}

// tally counts the boats by their breadths.
func (c checked) tally() terms.Tally { return terms.TallyOf(c.boats(), c.list) }

// span returns the span from the least to the greatest answer of all boats, if there are any.
func (c checked) span(question func(breadths) int) (api.Span, api.Snag) {
	x, found := spanOf(c.boats(), question)
	if !found {
		return api.Span{}, api.Foul
	}
	return x, api.Clear
}

// spanOf returns the span from the least to the greatest answer of all, if there are any.
func spanOf[T any](all iter.Seq[T], question func(T) int) (api.Span, bool) {
	var answers []api.Span
	for x := range all {
		n := question(x)
		answers = append(answers, api.Span{Low: n, High: n})
	}
	if len(answers) == 0 {
		return api.Span{}, false
	}
	return join(answers[0], answers[1:]...), true
}

// join returns the span from the least to the greatest number of spans.
func join(x api.Span, others ...api.Span) api.Span {
	for _, y := range others {
		x = api.Span{Low: min(x.Low, y.Low), High: max(x.High, y.High)}
	}
	return x
}
