package yard

import (
	"ribband/api"
	"ribband/offsets"
	"ribband/terms"
)

// simpson is how often the breadth of each station counts; what they are together is divided by thirds.
var simpson = [...]int{1, 4, 1}

const thirds = 3

// plane returns within what she weighs at a height, if stations are gap apart.
func (c checked) plane(height, gap int) (api.Span, api.Snag) {
	if terms.IsOut(height, api.MaxOffsetsMeasure) || !terms.Has(terms.UpTo(api.MaxYardGap), gap) {
		return api.Span{}, api.Range
	}
	if len(c.Table.Stations) != len(simpson) {
		return api.Span{}, api.Many
	}
	var sum api.Span
	for station, times := range simpson {
		x, s := offsets.Breadth(c.Table, station, height)
		if s != api.Clear {
			return api.Span{}, s
		}
		sum.Low += times * x.Low
		sum.High += times * x.High
	}
	return api.Span{Low: gap * sum.Low / thirds, High: gap * sum.High / thirds}, api.Clear
}
