package butt

import (
	"slices"

	"ribband/api"
	"ribband/terms"
)

// with returns the book with just these of its notes.
func (c checked) with(notes []int) checked {
	c.Notes = terms.Pick(c.Notes, notes)
	return c
}

// clash returns the first list of notes with which alone there is no boat; none if there is a boat.
func (c checked) clash() []int {
	notes, _ := terms.Clash(len(c.Notes), func(some []int) bool { return terms.IsAny(c.with(some).boats()) })
	return notes
}

// without returns the book once a board of a kind of which there can be one is thrown away, unless a note says that there is none.
func (c checked) without(kind int) (api.ButtBook, bool) {
	now := copyOf(c.ButtBook)
	now.Kinds[kind].Many = oneLess(now.Kinds[kind].Many)
	for i, n := range now.Notes {
		if !slices.Contains(n.Kinds, kind) {
			continue
		}
		if n.Sum.High == 0 {
			return api.ButtBook{}, false
		}
		now.Notes[i].Sum = oneLess(n.Sum)
	}
	return now, true
}

// oneLess returns the span of how many boards are left of so many, if there was one.
func oneLess(x api.Span) api.Span { return api.Span{Low: max(x.Low-1, 0), High: x.High - 1} }

// copyOf returns a book in memory of its own.
func copyOf(b api.ButtBook) api.ButtBook {
	b.Kinds = slices.Clone(b.Kinds)
	b.Notes = slices.Clone(b.Notes)
	for i, n := range b.Notes {
		b.Notes[i].Kinds = slices.Clone(n.Kinds)
	}
	return b
}

// news returns a new book in memory of its own, unless it has a snag or no boat.
func news(b api.ButtBook) (api.ButtBook, api.Snag) {
	c, s := open(b)
	if s != api.Clear {
		return api.ButtBook{}, s
	}
	if !terms.IsAny(c.boats()) {
		return api.ButtBook{}, api.Foul
	}
	return copyOf(b), api.Clear
}
