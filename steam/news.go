package steam

import (
	"slices"

	"ribband/api"
	"ribband/terms"
)

// with returns the book with just these of its notes.
func (c checked) with(notes []int) checked {
	c.Notes = terms.Pick(c.Notes, notes)
	return c
}

// clash returns the first list of notes with which alone there is no boat; none if there is a boat.
func (c checked) clash() []int {
	notes, _ := terms.Clash(len(c.Notes), func(some []int) bool { return terms.IsAny(c.with(some).boats()) })
	return notes
}

// copyOf returns a book in memory of its own.
func copyOf(b api.SteamBook) api.SteamBook {
	b.Planks = slices.Clone(b.Planks)
	b.Notes = slices.Clone(b.Notes)
	for i, n := range b.Notes {
		b.Notes[i].Planks = slices.Clone(n.Planks)
	}
	return b
}

// news returns a new book in memory of its own, unless it has a snag or no boat.
func news(b api.SteamBook) (api.SteamBook, api.Snag) {
	c, s := openBoats(b)
	if s != api.Clear {
		return api.SteamBook{}, s
	}
	return copyOf(c.SteamBook), api.Clear
}
