package mould

import (
	"ribband/api"
	"ribband/terms"
)

// wood is one board.
type wood struct{ api.MouldBoard }

func (b book) wood(board int) wood { return wood{b.Boards[board]} }

// clear returns the longest spans of places that no knot takes.
func (w wood) clear() []api.Span {
	var list []api.Span
	from := 0
	upTo := func(end int) {
		if from < end {
			list = append(list, api.Span{Low: from, High: end - 1})
		}
	}
	for _, knot := range w.Knots {
		upTo(knot.Low)
		from = knot.High + 1
	}
	upTo(w.Long)
	return list
}

// longest returns how long a piece that bears so many knots can be.
func (w wood) longest(bears int) int {
	longest := 0
places:
	for from := range w.Long {
		for {
			x := placesOf(from, longest+1)
			switch {
			case !w.holds(x):
				break places // nor does it end on the board from a later place on
			case w.met(x) > bears:
				continue places
			}
			longest++
		}
	}
	return longest
}

// places returns from which places on a piece can be cut that is so long, and bears so many knots.
func (w wood) places(long, bears int) []int {
	var list []int
	for from := range w.Long {
		x := placesOf(from, long)
		if !w.holds(x) {
			break
		}
		if w.met(x) <= bears {
			list = append(list, from)
		}
	}
	return list
}

// placesOf returns the places that a piece takes.
func placesOf(from, long int) api.Span { return api.Span{Low: from, High: from + long - 1} }

// holds tells whether places that begin on a board end on it.
func (w wood) holds(x api.Span) bool { return x.High < w.Long }

// met returns how many knots take one of these places.
func (w wood) met(x api.Span) int {
	many := 0
	for _, knot := range w.Knots {
		if _, ok := terms.Common(knot, x); ok {
			many++
		}
	}
	return many
}
