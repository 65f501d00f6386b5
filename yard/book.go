package yard

import "ribband/api"

// book is a book that was not checked yet.
type book struct{ api.YardBook }

func (b book) snag() api.Snag {
	for _, p := range b.parts() {
		if s := p.snag(); s != api.Clear {
			return s
		}
	}
	return api.Clear
}

// checked is a book without a snag, and how many boats such books have, as far as they were counted.
type checked struct {
	book
	known map[counted]int
}

func open(b api.YardBook) (checked, api.Snag) {
	c := checked{book{b}, map[counted]int{}}
	if s := c.snag(); s != api.Clear {
		return checked{}, s
	}
	return c, api.Clear
}

// copyOf returns the book in memory of its own: what is read from a text shares none with what was written.
func (c checked) copyOf() api.YardBook {
	now := c.book
	for _, p := range c.parts() {
		x, _, _ := p.read(p.text())
		now = now.with(x)
	}
	return now.YardBook
}
