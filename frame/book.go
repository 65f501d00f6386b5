package frame

import (
	"slices"

	"ribband/api"
	"ribband/terms"
)

const leastPoints = 2

// book is a book that was not checked yet.
type book struct{ api.FrameBook }

// checked is a book without a snag.
type checked struct{ book }

func open(b api.FrameBook) (checked, api.Snag) {
	c := checked{book{b}}
	if s := c.snag(); s != api.Clear {
		return checked{}, s
	}
	return c, api.Clear
}

func (b book) snag() api.Snag {
	for _, part := range []func(book) api.Snag{book.headSnag, book.pointsSnag, book.tapesSnag, book.sticksSnag} {
		if s := part(b); s != api.Clear {
			return s
		}
	}
	return api.Clear
}

func (b book) headSnag() api.Snag {
	if terms.IsOut(b.Plank, api.MaxFramePlank) {
		return api.Range
	}
	return api.Clear
}

func (b book) pointsSnag() api.Snag {
	if len(b.Points) < leastPoints || len(b.Points) > api.MaxFramePoints {
		return api.Many
	}
	below := -1 // no height is turned behind nothing
	for _, p := range b.Points {
		s := terms.SnagOf(point{p, below}, []terms.Check[point]{
			{Wrong: point.heightOut, Snag: api.Range},
			{Wrong: point.turned, Snag: api.Turned},
			{Wrong: point.breadthOut, Snag: api.Range},
		})
		if s != api.Clear {
			return s
		}
		below = p.Height
	}
	return api.Clear
}

// point is a point above a height.
type point struct {
	api.FramePoint
	below int
}

func (p point) heightOut() bool { return terms.IsOut(p.Height, api.MaxFrameMeasure) }

func (p point) turned() bool { return p.Height <= p.below }

func (p point) breadthOut() bool {
	return !isBreadths(p.Breadth) || p.Breadth.High-p.Breadth.Low >= api.MaxFrameWide
}

// isBreadths tells whether x is a span of breadths that can be measured.
func isBreadths(x api.Span) bool { return terms.IsSpan(x, 0, api.MaxFrameMeasure) }

// stretch is what lies between two points, by their indexes.
type stretch struct{ from, to int }

// reach is a stretch of a frame that has so many points.
type reach struct {
	stretch
	points int
}

func (b book) reach(from, to int) reach {
	return reach{stretch{from, to}, len(b.Points)}
}

func (r reach) absent() bool {
	return !terms.IsIndex(r.from, r.points) || !terms.IsIndex(r.to, r.points)
}

func (r reach) turned() bool { return r.from >= r.to }

// reachSnag returns the snag of two points that are asked about.
func (b book) reachSnag(from, to int) api.Snag {
	return terms.SnagOf(b.reach(from, to), []terms.Check[reach]{
		{Wrong: reach.absent, Snag: api.Absent},
		{Wrong: reach.turned, Snag: api.Turned},
	})
}

// tape is the girth of a reach.
type tape struct {
	reach
	girth api.Span
}

func (t tape) girthOut() bool { return !terms.IsSpan(t.girth, 0, api.MaxFrameGirth) }

func (b book) tapesSnag() api.Snag {
	if len(b.Tapes) > api.MaxFrameTapes {
		return api.Many
	}
	for _, t := range b.Tapes {
		s := terms.SnagOf(tape{b.reach(t.From, t.To), t.Girth}, []terms.Check[tape]{
			{Wrong: tape.absent, Snag: api.Absent},
			{Wrong: tape.turned, Snag: api.Turned},
			{Wrong: tape.girthOut, Snag: api.Range},
		})
		if s != api.Clear {
			return s
		}
	}
	return api.Clear
}

func (b book) sticksSnag() api.Snag {
	if len(b.Sticks) > api.MaxFrameSticks {
		return api.Many
	}
	if slices.ContainsFunc(b.Sticks, b.stickOut) {
		return api.Range
	}
	return api.Clear
}

func (b book) stickOut(k api.FrameStick) bool {
	return b.heightOut(k.Height) || terms.IsOut(k.Long, api.MaxFrameMeasure)
}

// heightOut tells whether a height is below the first point, or above the last one.
func (b book) heightOut(height int) bool {
	return height < b.Points[0].Height || height > b.Points[len(b.Points)-1].Height
}
