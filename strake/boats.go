package strake

import (
	"iter"
	"slices"

	"ribband/api"
	"ribband/terms"
)

// fair yields all fair girths, the least list first.
func (c checked) fair() iter.Seq[girths] {
	return func(yield func(girths) bool) {
		var g girths
		var fill func(frame int) bool
		fill = func(frame int) bool {
			if frame == len(c.Girths) {
				return yield(g)
			}
			x := c.Girths[frame]
			for girth := x.Low; girth <= x.High; girth++ {
				g[frame] = girth
				if terms.AllWithin(terms.Bends(g[:frame+1]), c.Bend) && !fill(frame+1) {
					return false
				}
			}
			return true
		}
		fill(0)
	}
}

// boats returns all boats, the least list first. All fair girths are looked at at once.
func (c checked) boats() []girths {
	return terms.Which(slices.Collect(c.fair()), c.hasPlan)
}

// hasPlan tells whether girths have a plan by which all marks are right.
func (b book) hasPlan(g girths) bool { return b.look(g).plans().ways > 0 }

// tally counts the boats by their girths.
func (c checked) tally() terms.Tally { return terms.TallyOf(slices.Values(c.boats()), c.list) }

// list returns the girths of all frames.
func (b book) list(g girths) []int { return slices.Clone(g[:len(b.Girths)]) }

// sound tells how sure it is that fair girths are a boat, unless there are none.
func (c checked) sound() (api.Sure, api.Snag) {
	fair := len(slices.Collect(c.fair()))
	if fair == 0 {
		return api.Open, api.Scant
	}
	return terms.SureOf(len(c.boats()), fair), api.Clear
}

// of returns the book with so many strakes. Marks of strakes that are no more there do not count: nobody asks them about a width.
func (c checked) of(strakes int) checked {
	c.Strakes = strakes
	return c
}

// numbers returns the numbers of strakes with which the book is sound for sure, and those with which it is not unsound for sure.
func (c checked) numbers() (surely, perhaps []int, s api.Snag) {
	for strakes := 1; strakes <= api.MaxStrakeStrakes; strakes++ {
		sure, s := c.of(strakes).sound()
		if s != api.Clear {
			return nil, nil, s
		}
		if sure == api.Yes {
			surely = append(surely, strakes)
		}
		if sure != api.No {
			perhaps = append(perhaps, strakes)
		}
	}
	return surely, perhaps, api.Clear
}

// between returns the span from the least to the greatest width that a strake can have at a place: those with which, once they are marked there, a boat is left.
func (c checked) between(p place) (api.Span, api.Snag) {
	var left []api.Span
	for width := c.Least; width <= c.Most; width++ {
		x := api.Span{Low: width, High: width}
		if len(c.marked(api.StrakeMark{Frame: p.frame, Strake: p.strake, Width: x}).boats()) > 0 {
			left = append(left, x)
		}
	}
	if len(left) == 0 {
		return api.Span{}, api.Foul
	}
	return terms.Join(left[0], left[1:]...), api.Clear
}
