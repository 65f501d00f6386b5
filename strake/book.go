package strake

import (
	"slices"

	"ribband/api"
	"ribband/terms"
)

const leastFrames = 2

// book is a book that was not checked yet.
type book struct{ api.StrakeBook }

// checked is a book without a snag.
type checked struct{ book }

func open(b api.StrakeBook) (checked, api.Snag) {
	c := checked{book{b}}
	if s := c.snag(); s != api.Clear {
		return checked{}, s
	}
	return c, api.Clear
}

func (b book) snag() api.Snag {
	s := terms.SnagOf(b, []terms.Check[book]{
		{Wrong: book.limitsOut, Snag: api.Range},
		{Wrong: book.girthsMiscounted, Snag: api.Many},
		{Wrong: book.girthOut, Snag: api.Range},
		{Wrong: book.marksTooMany, Snag: api.Many},
	})
	if s != api.Clear {
		return s
	}
	return terms.EachSnag(len(b.Marks), b.markSnag)
}

// limitsOut looks at Most once Least is known to be a width, so that the spread can be told.
func (b book) limitsOut() bool {
	return isStrakesOut(b.Strakes) ||
		!terms.Has(terms.UpTo(api.MaxStrakeWidth), b.Least) ||
		!terms.Has(api.Span{Low: b.Least, High: min(b.Least+api.MaxStrakeSpread, api.MaxStrakeWidth)}, b.Most) ||
		terms.IsOut(b.Taper, api.MaxStrakeTaper) ||
		terms.IsOut(b.Bend, api.MaxStrakeBend)
}

// isStrakesOut tells whether there can not be so many strakes.
func isStrakesOut(strakes int) bool { return strakes < 1 || strakes > api.MaxStrakeStrakes }

func (b book) girthsMiscounted() bool {
	return len(b.Girths) < leastFrames || len(b.Girths) > api.MaxStrakeFrames
}

func (b book) girthOut() bool {
	return slices.ContainsFunc(b.Girths, func(x api.Span) bool {
		return !isGirths(x) || x.High-x.Low >= api.MaxStrakeWide
	})
}

// anyGirth is all girths that there are.
func anyGirth() api.Span { return api.Span{High: api.MaxStrakeGirth} }

// isGirths tells whether x is a span of girths.
func isGirths(x api.Span) bool { return terms.IsSpan(x, 0, api.MaxStrakeGirth) }

func (b book) marksTooMany() bool { return len(b.Marks) > api.MaxStrakeMarks }

func (b book) markSnag(i int) api.Snag {
	m := b.Marks[i]
	switch {
	case b.isAbsent(place{m.Frame, m.Strake}):
		return api.Absent
	case !terms.IsSpan(m.Width, 0, api.MaxStrakeWidth):
		return api.Range
	}
	return api.Clear
}

// place is where a strake has a width.
type place struct{ frame, strake int }

func (b book) isAbsent(p place) bool {
	return !terms.IsIndex(p.frame, len(b.Girths)) || !terms.IsIndex(p.strake, b.Strakes)
}

// planSnag returns the snag of a plan: of how many widths it has, and only then of these.
func (b book) planSnag(plan [][]int) api.Snag {
	if len(plan) != len(b.Girths) || slices.ContainsFunc(plan, func(l []int) bool { return len(l) != b.Strakes }) {
		return api.Many
	}
	return terms.EachSnag(len(plan), func(frame int) api.Snag {
		return terms.NumbersSnag(plan[frame], b.Strakes, api.Span{High: api.MaxStrakeWidth})
	})
}
