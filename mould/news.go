package mould

import (
	"slices"

	"ribband/api"
	"ribband/terms"
)

// with returns the book with just these of its tapes.
func (c checked) with(tapes []int) checked {
	c.Tapes = terms.Pick(c.Tapes, tapes)
	return c
}

// clash returns the first list of tapes with which alone there is no boat; none if there is a boat.
func (c checked) clash() []int {
	tapes, _ := terms.Clash(len(c.Tapes), func(some []int) bool { return terms.IsAny(c.with(some).boats()) })
	return tapes
}

// copyOf returns a book in memory of its own.
func copyOf(b api.MouldBook) api.MouldBook {
	b.Pieces = slices.Clone(b.Pieces)
	b.Boards = slices.Clone(b.Boards)
	for i, w := range b.Boards {
		b.Boards[i].Knots = slices.Clone(w.Knots)
	}
	b.Tapes = slices.Clone(b.Tapes)
	for i, t := range b.Tapes {
		b.Tapes[i].Pieces = slices.Clone(t.Pieces)
	}
	return b
}

// renewed returns a new book in memory of its own, unless it has a snag.
func renewed(b api.MouldBook) (api.MouldBook, api.Snag) {
	if s := CheckBook(b); s != api.Clear {
		return api.MouldBook{}, s
	}
	return copyOf(b), api.Clear
}

// news returns a new book in memory of its own, unless it has a snag or no boat.
func news(b api.MouldBook) (api.MouldBook, api.Snag) {
	c, s := open(b)
	if s != api.Clear {
		return api.MouldBook{}, s
	}
	if !terms.IsAny(c.boats()) {
		return api.MouldBook{}, api.Foul
	}
	return copyOf(b), api.Clear
}
