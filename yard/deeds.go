package yard

import (
	"slices"

	"ribband/api"
	"ribband/batten"
	"ribband/bevel"
	"ribband/butt"
	"ribband/frame"
	"ribband/mould"
	"ribband/offsets"
	"ribband/spile"
	"ribband/steam"
	"ribband/strake"
	"ribband/terms"
)

// do returns the book in which an entry is done, unless it has a snag, or is refused.
func (c checked) do(e api.YardEntry) (checked, api.Snag) {
	if s := entrySnag(e); s != api.Clear {
		return checked{}, s
	}
	now, s := kinds()[e.Kind].do(c, e)
	if s != api.Clear {
		return checked{}, s
	}
	return now, api.Clear
}

// strike refuses a strike: it is about an entry of a journal, and a book has none.
func (c checked) strike(api.YardEntry) (checked, api.Snag) { return c, api.Turned }

func (c checked) figure(e api.YardEntry) (now checked, s api.Snag) {
	cell := api.OffsetsCell{Butt: e.A == 1, Line: e.B, Station: e.C}
	c.Table, s = offsets.Read(c.Table, cell, e.S)
	return c, s
}

func (c checked) height(e api.YardEntry) (now checked, s api.Snag) {
	c.Line, s = batten.Measure(c.Line, e.A, e.M)
	return c, s
}

func (c checked) tape(e api.YardEntry) (now checked, s api.Snag) {
	c.Frame, s = frame.Tape(c.Frame, api.FrameTape{From: e.A, To: e.B, Girth: e.M})
	return c, s
}

func (c checked) stick(e api.YardEntry) (now checked, s api.Snag) {
	c.Frame, s = frame.Stick(c.Frame, api.FrameStick{Height: e.A, Long: e.B, Fits: e.C == 1})
	return c, s
}

func (c checked) length(e api.YardEntry) (now checked, s api.Snag) {
	c.Mould, s = mould.Measure(c.Mould, e.A, e.M)
	return c, s
}

func (c checked) lose(e api.YardEntry) (now checked, s api.Snag) {
	c.Mould, s = mould.Lose(c.Mould, e.A)
	return c, s
}

func (c checked) mark(e api.YardEntry) (now checked, s api.Snag) {
	c.Strakes, s = strake.Mark(c.Strakes, api.StrakeMark{Frame: e.A, Strake: e.B, Width: e.M})
	return c, s
}

func (c checked) rotten(e api.YardEntry) (now checked, s api.Snag) {
	c.Butts, s = butt.Rotten(c.Butts, e.A)
	return c, s
}

func (c checked) check(e api.YardEntry) (now checked, s api.Snag) {
	c.Spile, s = spile.Check(c.Spile, api.SpileCheck{Point: e.A, Gap: e.M})
	return c, s
}

func (c checked) bevel(e api.YardEntry) (now checked, s api.Snag) {
	c.Bevel, s = bevel.Read(c.Bevel, api.BevelReading{Frame: e.A, Bevel: e.M})
	return c, s
}

func (c checked) drop(e api.YardEntry) (now checked, s api.Snag) {
	c.Bevel, s = bevel.Drop(c.Bevel, e.A)
	return c, s
}

func (c checked) time(e api.YardEntry) (now checked, s api.Snag) {
	c.Steam, s = steam.Time(c.Steam, e.A, e.M)
	return c, s
}

func (c checked) pay(e api.YardEntry) (checked, api.Snag) {
	if s := c.paySnag(e); s != api.Clear {
		return checked{}, s
	}
	c.Bills = slices.Clone(c.Bills)
	c.Bills[e.A].Paid += e.B
	return c, api.Clear
}

func (c checked) paySnag(e api.YardEntry) api.Snag {
	switch {
	case !terms.IsIndex(e.A, len(c.Bills)):
		return api.Absent
	case !terms.Has(terms.UpTo(api.MaxYardPrice), e.B):
		return api.Range
	case !c.counts().isSettled(c.Bills[e.A].Part):
		return api.Scant
	case c.Bills[e.A].Paid+e.B > c.Bills[e.A].Price:
		return api.Foul
	}
	return api.Clear
}
