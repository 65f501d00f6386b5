package spile

import (
	"slices"

	"ribband/api"
	"ribband/terms"
)

// with returns the book with just these of its checks.
func (c checked) with(checks []int) checked {
	c.Checks = terms.Pick(c.Checks, checks)
	return c
}

// clash returns the first list of checks with which alone there is no boat; none if there is a boat.
func (c checked) clash() []int {
	checks, _ := terms.Clash(len(c.Checks), func(some []int) bool { return terms.IsAny(c.with(some).boats()) })
	return checks
}

// copyOf returns a book in memory of its own.
func copyOf(b api.SpileBook) api.SpileBook {
	b.Points = slices.Clone(b.Points)
	b.Checks = slices.Clone(b.Checks)
	return b
}

// news returns a new book in memory of its own, unless it has a snag or no boat.
func news(b api.SpileBook) (api.SpileBook, api.Snag) {
	c, s := open(b)
	if s != api.Clear {
		return api.SpileBook{}, s
	}
	if !terms.IsAny(c.boats()) {
		return api.SpileBook{}, api.Foul
	}
	return copyOf(b), api.Clear
}
