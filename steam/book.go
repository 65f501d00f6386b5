package steam

import (
	"slices"

	"ribband/api"
	"ribband/terms"
)

// book is a book that was not checked yet.
type book struct{ api.SteamBook }

// checked is a book without a snag.
type checked struct{ book }

func open(b api.SteamBook) (checked, api.Snag) {
	c := checked{book{b}}
	if s := c.snag(); s != api.Clear {
		return checked{}, s
	}
	return c, api.Clear
}

func (b book) snag() api.Snag {
	s := terms.SnagOf(b, []terms.Check[book]{
		{Wrong: book.placesOut, Snag: api.Range},
		{Wrong: book.handsOut, Snag: api.Range},
		{Wrong: book.tideOut, Snag: api.Range},
		{Wrong: book.planksMiscounted, Snag: api.Many},
	})
	if s != api.Clear {
		return s
	}
	if s := terms.EachSnag(len(b.Planks), b.plankSnag); s != api.Clear {
		return s
	}
	if len(b.Notes) > api.MaxSteamNotes {
		return api.Many
	}
	return terms.EachSnag(len(b.Notes), b.noteSnag)
}

func (b book) placesOut() bool { return !terms.Has(terms.UpTo(api.MaxSteamPlaces), b.Places) }

func (b book) handsOut() bool { return !terms.Has(terms.UpTo(api.MaxSteamHands), b.Hands) }

func (b book) tideOut() bool { return terms.IsOut(b.Tide, api.MaxSteamTide) }

func (b book) planksMiscounted() bool {
	return !terms.Has(terms.UpTo(api.MaxSteamPlanks), len(b.Planks))
}

func (b book) plankSnag(i int) api.Snag {
	p := b.Planks[i]
	switch {
	case !terms.IsName(p.Name):
		return api.Name
	case slices.ContainsFunc(b.Planks[:i], func(x api.SteamPlank) bool { return x.Name == p.Name }):
		return api.Again
	case !isTicks(p.Steam) || p.Steam.High-p.Steam.Low >= api.MaxSteamWide:
		return api.Range
	case !terms.Has(anyTicks(), p.Hang) || !terms.Has(anyTicks(), p.Soft):
		return api.Range
	}
	return api.Clear
}

// anyTicks is all numbers of ticks for which a plank can be steamed, hung, or soft.
func anyTicks() api.Span { return terms.UpTo(api.MaxSteamTicks) }

// isTicks tells whether x is a span of such numbers.
func isTicks(x api.Span) bool { return terms.IsSpan(x, 1, api.MaxSteamTicks) }

func (b book) noteSnag(i int) api.Snag {
	n := b.Notes[i]
	return terms.SumSnag(n.Planks, len(b.Planks), n.Sum, api.MaxSteamSum)
}

// timesSnag returns the snag of times.
func (b book) timesSnag(times []int) api.Snag {
	return terms.NumbersSnag(times, len(b.Planks), anyTicks())
}

// planSnag returns the snag of a plan.
func (b book) planSnag(plan []int) api.Snag {
	if len(plan) != len(b.Planks) {
		return api.Many
	}
	return terms.EachSnag(len(plan), func(i int) api.Snag {
		switch {
		case !terms.IsIndex(plan[i], len(b.Planks)):
			return api.Absent
		case slices.Contains(plan[:i], plan[i]):
			return api.Again
		}
		return api.Clear
	})
}
