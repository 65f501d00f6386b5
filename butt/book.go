package butt

import (
	"ribband/api"
	"ribband/terms"
)

// book is a book that was not checked yet.
type book struct{ api.ButtBook }

// checked is a book without a snag.
type checked struct{ book }

func open(b api.ButtBook) (checked, api.Snag) {
	c := checked{book{b}}
	if s := c.snag(); s != api.Clear {
		return checked{}, s
	}
	return c, api.Clear
}

func (b book) snag() api.Snag {
	s := terms.SnagOf(b, []terms.Check[book]{
		{Wrong: book.framesOut, Snag: api.Range},
		{Wrong: book.strakesOut, Snag: api.Range},
		{Wrong: book.gapOut, Snag: api.Range},
		{Wrong: book.betweenOut, Snag: api.Range},
		{Wrong: book.leastOut, Snag: api.Range},
		{Wrong: book.kindsMiscounted, Snag: api.Many},
	})
	if s != api.Clear {
		return s
	}
	if s := terms.EachSnag(len(b.Kinds), b.kindSnag); s != api.Clear {
		return s
	}
	if len(b.Notes) > api.MaxButtNotes {
		return api.Many
	}
	return terms.EachSnag(len(b.Notes), b.noteSnag)
}

func (b book) framesOut() bool { return !terms.Has(terms.UpTo(api.MaxButtFrames), b.Frames) }

func (b book) strakesOut() bool { return !terms.Has(terms.UpTo(api.MaxButtStrakes), b.Strakes) }

func (b book) gapOut() bool { return terms.IsOut(b.Gap, api.MaxButtGap) }

func (b book) betweenOut() bool { return terms.IsOut(b.Between, api.MaxButtBetween) }

func (b book) leastOut() bool { return !terms.Has(terms.UpTo(api.MaxButtFrames), b.Least) }

func (b book) kindsMiscounted() bool { return !terms.Has(terms.UpTo(api.MaxButtKinds), len(b.Kinds)) }

func (b book) kindSnag(i int) api.Snag {
	k := b.Kinds[i]
	switch {
	case !terms.Has(terms.UpTo(api.MaxButtLong), k.Long) || terms.IsOut(k.Cost, api.MaxButtCost):
		return api.Range
	case !isMany(k.Many) || k.Many.High-k.Many.Low >= api.MaxButtWide:
		return api.Range
	case i > 0 && k.Long <= b.Kinds[i-1].Long:
		return api.Turned
	}
	return api.Clear
}

// anyMany is all numbers that there can be of boards of a kind.
func anyMany() api.Span { return api.Span{High: api.MaxButtMany} }

// isMany tells whether x is a span of such numbers.
func isMany(x api.Span) bool { return terms.IsSpan(x, 0, api.MaxButtMany) }

// numbersSnag returns the snag of numbers of boards.
func (b book) numbersSnag(numbers []int) api.Snag {
	return terms.NumbersSnag(numbers, len(b.Kinds), anyMany())
}

func (b book) noteSnag(i int) api.Snag {
	n := b.Notes[i]
	return terms.SumSnag(n.Kinds, len(b.Kinds), n.Sum, api.MaxButtSum)
}

// layoutSnag returns the snag of a layout.
func (b book) layoutSnag(lists [][]int) api.Snag {
	if len(lists) != b.Strakes {
		return api.Many
	}
	return terms.EachSnag(b.Strakes, func(strake int) api.Snag {
		return terms.AscendingSnag(lists[strake], terms.UpTo(b.Frames-1))
	})
}
