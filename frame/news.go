package frame

import (
	"slices"
	"sync"

	"ribband/api"
	"ribband/terms"
)

// notes are tapes and sticks, by their numbers: those of sticks are behind those of all tapes.
func (b book) notes() int { return len(b.Tapes) + len(b.Sticks) }

// split returns the indexes of the tapes and the sticks of an ascending list of numbers.
func (b book) split(numbers []int) (tapes, sticks []int) {
	for _, n := range numbers {
		if n < len(b.Tapes) {
			tapes = append(tapes, n)
		} else {
			sticks = append(sticks, n-len(b.Tapes))
		}
	}
	return tapes, sticks
}

// with returns the book with just these of its tapes and sticks.
func (c checked) with(numbers []int) checked {
	tapes, sticks := c.split(numbers)
	c.Tapes, c.Sticks = terms.Pick(c.Tapes, tapes), terms.Pick(c.Sticks, sticks)
	return c
}

// clash returns the first list of tapes and sticks with which alone there is no boat; none if there is a boat. All lists are tried at once; which one is ready first makes no difference.
func (c checked) clash() []int {
	all := slices.Collect(terms.Lists(c.notes(), c.notes()))
	first := len(all)
	var lock sync.Mutex
	var group sync.WaitGroup
	for i, list := range all {
		group.Add(1)
		go func() {
			defer group.Done()
			if terms.IsAny(c.with(list).boats()) {
				return
			}
			lock.Lock()
			defer lock.Unlock()
			first = min(first, i)
		}()
	}
	group.Wait()
	if first == len(all) {
		return nil
	}
	return all[first]
}

// copyOf returns a book in memory of its own.
func copyOf(b api.FrameBook) api.FrameBook {
	b.Points = slices.Clone(b.Points)
	b.Tapes = slices.Clone(b.Tapes)
	b.Sticks = slices.Clone(b.Sticks)
	return b
}

// news returns a new book, unless it has a snag or no boat.
func news(b api.FrameBook) (api.FrameBook, api.Snag) {
	c, s := open(b)
	if s != api.Clear {
		return api.FrameBook{}, s
	}
	if !terms.IsAny(c.boats()) {
		return api.FrameBook{}, api.Foul
	}
	return b, api.Clear
}
