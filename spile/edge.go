package spile

import (
	"slices"

	"ribband/api"
	"ribband/terms"
)

// row has a number for each point: its mark, or its gap. What is behind the last point is 0.
type row [api.MaxSpilePoints]int

func rowOf(list []int) row {
	var r row
	copy(r[:], list)
	return r
}

// list returns the numbers of all points.
func (b book) list(r row) []int { return slices.Clone(r[:len(b.Points)]) }

// boat is the marks as they are, and how the compass slipped.
type boat struct {
	marks row
	slip  api.SpileSlip
}

func (x boat) hasSlipped() bool { return x.slip != api.SpileSlip{} }

// gaps returns the gaps that a boat leaves.
func (b book) gaps(x boat) row {
	var gaps row
	for point := range len(b.Points) {
		gaps[point] = b.Opening - x.marks[point]
		if point >= x.slip.Before {
			gaps[point] += x.slip.By
		}
	}
	return gaps
}

// free returns where the plank's edge can be at a point, so that the plank lies on the board there. Its Low is above its High if the board is too narrow.
func (b book) free(point int) api.Span {
	p := b.Points[point]
	return api.Span{Low: p.Board.Low, High: p.Board.High - p.Width}
}

// left returns how much of the board is left at a point.
func (b book) left(point int) int {
	x := b.free(point)
	return x.High - x.Low
}

// room returns the first point at which the least is left.
func (b book) room() int {
	first := 0
	for point := range len(b.Points) {
		if b.left(point) < b.left(first) {
			first = point
		}
	}
	return first
}

// shifts returns the span of the numbers by which gaps can be shifted so that they lie on the board, if there are any.
func (b book) shifts(gaps row) (api.Span, bool) {
	var lower, upper []int
	for point := range len(b.Points) {
		x := b.free(point)
		lower = append(lower, x.Low-gaps[point])
		upper = append(upper, x.High-gaps[point])
	}
	x := api.Span{Low: terms.Highest(lower[0], lower[1:]...), High: terms.Lowest(upper[0], upper[1:]...)}
	if x.Low > x.High {
		return api.Span{}, false
	}
	return x, true
}

// fits tells whether the gaps of a boat can be shifted so that they lie on the board.
func (b book) fits(x boat) bool {
	_, found := b.shifts(b.gaps(x))
	return found
}
