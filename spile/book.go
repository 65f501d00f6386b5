package spile

import (
	"slices"

	"ribband/api"
	"ribband/terms"
)

const leastPoints = 2

// book is a book that was not checked yet.
type book struct{ api.SpileBook }

// checked is a book without a snag.
type checked struct{ book }

func open(b api.SpileBook) (checked, api.Snag) {
	c := checked{book{b}}
	if s := c.snag(); s != api.Clear {
		return checked{}, s
	}
	return c, api.Clear
}

func (b book) snag() api.Snag {
	s := terms.SnagOf(b, []terms.Check[book]{
		{Wrong: book.openingOut, Snag: api.Range},
		{Wrong: book.slipOut, Snag: api.Range},
		{Wrong: book.pointsMiscounted, Snag: api.Many},
	})
	if s != api.Clear {
		return s
	}
	if s := terms.EachSnag(len(b.Points), b.pointSnag); s != api.Clear {
		return s
	}
	if len(b.Checks) > api.MaxSpileChecks {
		return api.Many
	}
	return terms.EachSnag(len(b.Checks), b.checkSnag)
}

func (b book) openingOut() bool { return terms.IsOut(b.Opening, api.MaxSpileOpening) }

func (b book) slipOut() bool { return terms.IsOut(b.Slip, api.MaxSpileSlip) }

func (b book) pointsMiscounted() bool {
	return !terms.Has(api.Span{Low: leastPoints, High: api.MaxSpilePoints}, len(b.Points))
}

func (b book) pointSnag(i int) api.Snag {
	p := b.Points[i]
	switch {
	case !isMark(p.Mark) || p.Mark.High-p.Mark.Low >= api.MaxSpileWide:
		return api.Range
	case !terms.IsSpan(p.Board, 0, api.MaxSpileBoard) || terms.IsOut(p.Width, api.MaxSpileBoard):
		return api.Range
	}
	return api.Clear
}

// isMark tells whether x is a span of numbers that a mark can be.
func isMark(x api.Span) bool { return terms.IsSpan(x, 0, api.MaxSpileMark) }

func (b book) checkSnag(i int) api.Snag {
	c := b.Checks[i]
	switch {
	case !terms.IsIndex(c.Point, len(b.Points)):
		return api.Absent
	case !terms.IsSpan(c.Gap, -api.MaxSpileGap, api.MaxSpileGap):
		return api.Range
	}
	return api.Clear
}

// boatSnag returns the snag of marks and a slip.
func (b book) boatSnag(marks []int, k api.SpileSlip) api.Snag {
	if s := terms.NumbersSnag(marks, len(b.Points), api.Span{High: api.MaxSpileMark}); s != api.Clear {
		return s
	}
	if !slices.Contains(b.allowed(), k) {
		return api.Absent
	}
	return api.Clear
}

// gapsSnag returns the snag of gaps.
func (b book) gapsSnag(gaps []int) api.Snag {
	return terms.NumbersSnag(gaps, len(b.Points), api.Span{Low: -api.MaxSpileGap, High: api.MaxSpileGap})
}
