package batten

import (
	"slices"

	"ribband/api"
	"ribband/terms"
)

// book is a book that was not checked yet.
type book struct{ api.BattenBook }

// checked is a book without a snag.
type checked struct{ book }

func open(b api.BattenBook) (checked, api.Snag) {
	c := checked{book{b}}
	if s := c.snag(); s != api.Clear {
		return checked{}, s
	}
	return c, api.Clear
}

func (b book) snag() api.Snag {
	s := terms.SnagOf(b, []terms.Check[book]{
		{Wrong: book.stiffnessOut, Snag: api.Range},
		{Wrong: book.marksMiscounted, Snag: api.Many},
		{Wrong: book.markOut, Snag: api.Range},
		{Wrong: book.rulesTooMany, Snag: api.Many},
	})
	if s != api.Clear {
		return s
	}
	for _, r := range b.Rules {
		if s := b.ruleSnag(r); s != api.Clear {
			return s
		}
	}
	return api.Clear
}

func (b book) stiffnessOut() bool {
	return terms.IsOut(b.Bend, api.MaxBattenBend) || terms.IsOut(b.Twist, api.MaxBattenTwist) || terms.IsOut(b.Turns, api.MaxBattenTurns)
}

func (b book) marksMiscounted() bool {
	return len(b.Marks) < leastStations || len(b.Marks) > api.MaxBattenStations
}

func (b book) markOut() bool {
	return slices.ContainsFunc(b.Marks, func(x api.Span) bool {
		return !isHeights(x) || x.High-x.Low >= api.MaxBattenWide
	})
}

// isHeights tells whether x is a span of heights that can be measured.
func isHeights(x api.Span) bool { return terms.IsSpan(x, 0, api.MaxBattenHeight) }

func (b book) rulesTooMany() bool { return len(b.Rules) > api.MaxBattenRules }

// rule is a rule of a line with so many stations.
type rule struct {
	api.BattenRule
	stations int
}

func (b book) ruleSnag(r api.BattenRule) api.Snag {
	return terms.SnagOf(rule{r, len(b.Marks)}, []terms.Check[rule]{
		{Wrong: rule.absent, Snag: api.Absent},
		{Wrong: rule.turned, Snag: api.Turned},
		{Wrong: rule.riseOut, Snag: api.Range},
	})
}

func (r rule) absent() bool {
	return !terms.IsIndex(r.A, r.stations) || !terms.IsIndex(r.B, r.stations)
}

func (r rule) turned() bool { return r.A >= r.B }

func (r rule) riseOut() bool {
	return !terms.IsSpan(r.Rise, -api.MaxBattenHeight, api.MaxBattenHeight)
}
