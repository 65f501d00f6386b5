package batten

import (
	"slices"

	"ribband/api"
	"ribband/terms"
)

// check is a way in which something can be wrong, and its snag.
type check[T any] struct {
	wrong func(T) bool
	snag  api.Snag
}

// snagOf returns the snag of the first check that finds something wrong.
func snagOf[T any](x T, checks []check[T]) api.Snag {
	for _, c := range checks {
		if c.wrong(x) {
			return c.snag
		}
	}
	return api.Clear
}

// book is a book that was not checked yet.
type book struct{ api.BattenBook }

// checked is a book without a snag.
type checked struct{ book }

func open(b api.BattenBook) (checked, api.Snag) {
	c := checked{book{b}}
	if s := c.snag(); s != api.Clear {
		return checked{}, s
	}
	return c, api.Clear
}

func (b book) snag() api.Snag {
	s := snagOf(b, []check[book]{
		{book.stiffnessOut, api.Range},
		{book.marksMiscounted, api.Many},
		{book.markOut, api.Range},
		{book.rulesTooMany, api.Many},
	})
	if s != api.Clear {
		return s
	}
	for _, r := range b.Rules {
		if s := b.ruleSnag(r); s != api.Clear {
			return s
		}
	}
	return api.Clear
}

func (b book) stiffnessOut() bool {
	return isOut(b.Bend, api.MaxBattenBend) || isOut(b.Twist, api.MaxBattenTwist) || isOut(b.Turns, api.MaxBattenTurns)
}

func isOut(n, most int) bool { return n < 0 || n > most }

func (b book) marksMiscounted() bool {
	return len(b.Marks) < leastStations || len(b.Marks) > api.MaxBattenStations
}

func (b book) markOut() bool {
	return slices.ContainsFunc(b.Marks, func(x api.Span) bool {
		return !isHeights(x) || x.High-x.Low >= api.MaxBattenWide
	})
}

// isHeights tells whether x is a span of heights that can be measured.
func isHeights(x api.Span) bool { return terms.IsSpan(x, 0, api.MaxBattenHeight) }

func (b book) rulesTooMany() bool { return len(b.Rules) > api.MaxBattenRules }

// rule is a rule of a line with so many stations.
type rule struct {
	api.BattenRule
	stations int
}

func (b book) ruleSnag(r api.BattenRule) api.Snag {
	return snagOf(rule{r, len(b.Marks)}, []check[rule]{
		{rule.absent, api.Absent},
		{rule.turned, api.Turned},
		{rule.riseOut, api.Range},
	})
}

func (r rule) absent() bool {
	return !isIndex(r.A, r.stations) || !isIndex(r.B, r.stations)
}

func (r rule) turned() bool { return r.A >= r.B }

func (r rule) riseOut() bool {
	return !terms.IsSpan(r.Rise, -api.MaxBattenHeight, api.MaxBattenHeight)
}

func isIndex(i, many int) bool { return i >= 0 && i < many }

// heights are those of a line that is handed in, for so many stations.
type heights struct {
	list     []int
	stations int
}

func (b book) lineSnag(list []int) api.Snag {
	return snagOf(heights{list, len(b.Marks)}, []check[heights]{
		{heights.miscounted, api.Many},
		{heights.out, api.Range},
	})
}

func (h heights) miscounted() bool { return len(h.list) != h.stations }

func (h heights) out() bool {
	return slices.ContainsFunc(h.list, func(height int) bool { return isOut(height, api.MaxBattenHeight) })
}
