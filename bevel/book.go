package bevel

import (
	"slices"

	"ribband/api"
	"ribband/terms"
)

const leastFrames = 3

// book is a book that was not checked yet.
type book struct{ api.BevelBook }

// checked is a book without a snag.
type checked struct{ book }

func open(b api.BevelBook) (checked, api.Snag) {
	c := checked{book{b}}
	if s := c.snag(); s != api.Clear {
		return checked{}, s
	}
	return c, api.Clear
}

func (b book) snag() api.Snag {
	s := terms.SnagOf(b, []terms.Check[book]{
		{Wrong: func(b book) bool { return isOut(b.Run, 1, api.MaxBevelRun) }, Snag: api.Range},
		{Wrong: func(b book) bool { return isOut(b.Scale, 1, api.MaxBevelScale) }, Snag: api.Range},
		{Wrong: func(b book) bool { return isOut(b.Follow, 0, api.MaxBevelFollow) }, Snag: api.Range},
		{Wrong: func(b book) bool { return isOut(b.Bite, 1, api.MaxBevelBite) }, Snag: api.Range},
		{Wrong: func(b book) bool { return isOut(b.Wrong, 0, api.MaxBevelWrong) }, Snag: api.Range},
		{Wrong: func(b book) bool { return isOut(b.frames(), leastFrames, api.MaxBevelFrames) }, Snag: api.Many},
	})
	if s != api.Clear {
		return s
	}
	if slices.ContainsFunc(b.Offsets, areOffsetsOut) {
		return api.Range
	}
	if b.readings() > api.MaxBevelReadings {
		return api.Many
	}
	return terms.EachSnag(b.readings(), b.readingSnag)
}

func isOut(n, low, high int) bool { return !terms.Has(api.Span{Low: low, High: high}, n) }

// frames returns how many frames there are.
func (b book) frames() int { return len(b.Offsets) }

// bevels returns how many frames have a bevel: all but the last one.
func (b book) bevels() int { return b.frames() - 1 }

// readings returns how many readings there are.
func (b book) readings() int { return len(b.Readings) }

// areOffsetsOut tells whether x can not be the span of a frame's offsets.
func areOffsetsOut(x api.Span) bool { return !isOffsets(x) || x.High-x.Low >= api.MaxBevelWide }

// isOffsets tells whether x is a span of numbers that an offset can be.
func isOffsets(x api.Span) bool { return terms.IsSpan(x, 0, api.MaxBevelOffset) }

func (b book) readingSnag(i int) api.Snag {
	r := b.Readings[i]
	switch {
	case !terms.IsIndex(r.Frame, b.bevels()):
		return api.Absent
	case !terms.IsSpan(r.Bevel, -api.MaxBevelBevel, api.MaxBevelBevel):
		return api.Range
	}
	return api.Clear
}

// offsetsSnag returns the snag of offsets.
func (b book) offsetsSnag(offsets []int) api.Snag {
	return terms.NumbersSnag(offsets, b.frames(), api.Span{High: api.MaxBevelOffset})
}

// wrongSnag returns the snag of wrong readings.
func (b book) wrongSnag(wrong []int) api.Snag { return terms.IndexesSnag(wrong, b.readings()) }
