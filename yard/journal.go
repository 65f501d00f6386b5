package yard

import (
	"iter"
	"slices"

	"ribband/api"
	"ribband/terms"
)

// written is an entry of a journal; it stands or does not.
type written struct {
	api.YardEntry
	stands bool
}

// journal is a book as its entries make it, the book as it was first, and the entries.
type journal struct {
	checked
	first   checked
	entries []written
}

func openJournal(b api.YardBook) (journal, api.Snag) {
	c, s := open(b)
	if s != api.Clear {
		return journal{}, s
	}
	return journal{checked: c, first: c}, api.Clear
}

// play opens a book, and writes all entries of a journal. It returns their snags.
func play(b api.YardBook, l []api.YardEntry) (j journal, snags []api.Snag, s api.Snag) {
	j, s = openJournal(b)
	if s != api.Clear {
		return journal{}, nil, s
	}
	if len(l) > api.MaxYardEntries {
		return journal{}, nil, api.Many
	}
	for _, e := range l {
		snags = append(snags, j.write(e))
	}
	return j, snags, api.Clear
}

// write writes one more entry, and returns its snag.
func (j *journal) write(e api.YardEntry) api.Snag {
	now, s := j.after(e)
	if s == api.Clear {
		j.checked = now
		if e.Kind == api.YardStrike {
			j.entries[e.A-1].stands = false
		}
	}
	j.entries = append(j.entries, written{e, s == api.Clear})
	return s
}

// after returns the book as one more entry makes it.
func (j journal) after(e api.YardEntry) (checked, api.Snag) {
	if e.Kind != api.YardStrike {
		return j.do(e)
	}
	if s := j.strikeSnag(e); s != api.Clear {
		return checked{}, s
	}
	return j.without(e.A)
}

func (j journal) strikeSnag(e api.YardEntry) api.Snag {
	if s := entrySnag(e); s != api.Clear {
		return s
	}
	if !terms.Has(terms.UpTo(len(j.entries)), e.A) {
		return api.Absent
	}
	switch x := j.entries[e.A-1]; {
	case !x.stands || x.Kind == api.YardStrike:
		return api.Absent
	case x.Hand != e.Hand:
		return api.Turned
	}
	return api.Clear
}

// without returns the book as it was first, on which all entries that stand are done but for one.
func (j journal) without(struck int) (checked, api.Snag) {
	now := j.first
	for number, e := range j.deeds() {
		if number == struck {
			continue
		}
		next, s := now.do(e)
		if s != api.Clear {
			return checked{}, s
		}
		now = next
	}
	return now, api.Clear
}

// standing yields the entries that stand, with their numbers.
func (j journal) standing() iter.Seq2[int, api.YardEntry] {
	return func(yield func(int, api.YardEntry) bool) {
		for i, e := range j.entries {
			if e.stands && !yield(i+1, e.YardEntry) {
				return
			}
		}
	}
}

// deeds yields the entries that stand, but for strikes, with their numbers.
func (j journal) deeds() iter.Seq2[int, api.YardEntry] {
	return func(yield func(int, api.YardEntry) bool) {
		for number, e := range j.standing() {
			if e.Kind != api.YardStrike && !yield(number, e) {
				return
			}
		}
	}
}

// stands returns the numbers of the entries that stand.
func (j journal) stands() []int {
	var list []int
	for number := range j.standing() {
		list = append(list, number)
	}
	return list
}

// both returns the parts on which both hands did something that stands.
func (j journal) both() []int {
	var did [manyParts][api.MaxYardHands]bool
	for _, e := range j.deeds() {
		did[kinds()[e.Kind].part][e.Hand] = true
	}
	var list []int
	for i, hands := range did {
		if !slices.Contains(hands[:], false) {
			list = append(list, i)
		}
	}
	return list
}
