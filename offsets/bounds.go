package offsets

import (
	"ribband/api"
	"ribband/terms"
)

// place is where it is asked within what the skin lies: at a station, at the height of a waterline, or at the distance of a buttock (butt).
type place struct {
	checked
	butt        bool
	station, at int
}

// bounds returns within what the skin of a boat lies.
func (p place) bounds(b boat) api.Span {
	var lower, upper []int
	for i, x := range p.cells {
		if x.Station != p.station || b[i] == astray {
			continue
		}
		if x.Butt == p.butt {
			if x.at <= p.at {
				lower = append(lower, b[i])
			}
			if x.at >= p.at {
				upper = append(upper, b[i])
			}
			continue
		}
		if b[i] < p.at {
			lower = append(lower, x.at)
		}
		if b[i] > p.at {
			upper = append(upper, x.at)
		}
	}
	return api.Span{Low: terms.Highest(0, lower...), High: terms.Lowest(api.MaxOffsetsMeasure, upper...)}
}

// between returns the span from the least to the greatest bound of all boats, if there are any.
func (c checked) between(bounds func(boat) api.Span) (api.Span, bool) {
	all, found := api.Span{Low: api.MaxOffsetsMeasure}, false
	for b := range c.boats() {
		one := bounds(b)
		all.Low = terms.Lowest(all.Low, one.Low)
		all.High = terms.Highest(all.High, one.High)
		found = true
	}
	return all, found
}

// within answers Breadth and, for butt, Height.
func within(t api.OffsetsTable, butt bool, station, at int) (api.Span, api.Snag) {
	c, s := check(t)
	switch {
	case s != api.Clear:
		return api.Span{}, s
	case station < 0 || station >= len(c.Stations):
		return api.Span{}, api.Absent
	case !isMeasure(at):
		return api.Span{}, api.Range
	}
	p := place{checked: c, butt: butt, station: station, at: at}
	span, found := c.between(p.bounds)
	if !found {
		return api.Span{}, api.Foul
	}
	return span, api.Clear
}
