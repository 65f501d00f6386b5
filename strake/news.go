package strake

import (
	"slices"

	"ribband/api"
	"ribband/terms"
)

// marked returns the book with one more mark.
func (c checked) marked(m api.StrakeMark) checked {
	c.Marks = slices.Concat(c.Marks, []api.StrakeMark{m})
	return c
}

// with returns the book with just these of its marks.
func (c checked) with(marks []int) checked {
	c.Marks = terms.Pick(c.Marks, marks)
	return c
}

// clash returns the first list of marks with which alone there is no boat, if there is one.
func (c checked) clash() (marks []int, found bool) {
	return terms.Clash(len(c.Marks), func(some []int) bool { return len(c.with(some).boats()) > 0 })
}

// copyOf returns a book in memory of its own.
func copyOf(b api.StrakeBook) api.StrakeBook {
	b.Girths = slices.Clone(b.Girths)
	b.Marks = slices.Clone(b.Marks)
	return b
}

// news returns a new book, unless it has a snag or no boat.
func news(b api.StrakeBook) (api.StrakeBook, api.Snag) {
	c, s := open(b)
	if s != api.Clear {
		return api.StrakeBook{}, s
	}
	if len(c.boats()) == 0 {
		return api.StrakeBook{}, api.Foul
	}
	return b, api.Clear
}
