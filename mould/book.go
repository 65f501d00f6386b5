package mould

import (
	"slices"

	"ribband/api"
	"ribband/terms"
)

// book is a book that was not checked yet.
type book struct{ api.MouldBook }

// checked is a book without a snag.
type checked struct{ book }

func open(b api.MouldBook) (checked, api.Snag) {
	c := checked{book{b}}
	if s := c.snag(); s != api.Clear {
		return checked{}, s
	}
	return c, api.Clear
}

func (b book) snag() api.Snag {
	for _, part := range []func() api.Snag{b.sawSnag, b.piecesSnag, b.boardsSnag, b.tapesSnag} {
		if s := part(); s != api.Clear {
			return s
		}
	}
	return api.Clear
}

func (b book) sawSnag() api.Snag {
	if terms.IsOut(b.Saw, api.MaxMouldSaw) {
		return api.Range
	}
	return api.Clear
}

func (b book) piecesSnag() api.Snag {
	if len(b.Pieces) < 1 || len(b.Pieces) > api.MaxMouldPieces {
		return api.Many
	}
	return terms.EachSnag(len(b.Pieces), b.pieceSnag)
}

func (b book) pieceSnag(i int) api.Snag {
	p := b.Pieces[i]
	switch {
	case !terms.IsName(p.Name):
		return api.Name
	case slices.ContainsFunc(b.Pieces[:i], func(x api.MouldPiece) bool { return x.Name == p.Name }):
		return api.Again
	case !isLengths(p.Length) || p.Length.High-p.Length.Low >= api.MaxMouldWide || isBearsOut(p.Bears):
		return api.Range
	}
	return api.Clear
}

// anyLength is all lengths that there are.
func anyLength() api.Span { return terms.UpTo(api.MaxMouldLong) }

// isLengths tells whether x is a span of lengths.
func isLengths(x api.Span) bool { return terms.IsSpan(x, 1, api.MaxMouldLong) }

// isBearsOut tells whether no piece bears so many knots.
func isBearsOut(bears int) bool { return terms.IsOut(bears, api.MaxMouldBears) }

func (b book) boardsSnag() api.Snag {
	if len(b.Boards) > api.MaxMouldBoards {
		return api.Many
	}
	return terms.EachSnag(len(b.Boards), b.boardSnag)
}

func (b book) boardSnag(i int) api.Snag {
	w := b.wood(i)
	switch {
	case !terms.IsName(w.Name):
		return api.Name
	case slices.ContainsFunc(b.Boards[:i], func(x api.MouldBoard) bool { return x.Name == w.Name }):
		return api.Again
	case !terms.Has(anyLength(), w.Long):
		return api.Range
	case len(w.Knots) > api.MaxMouldKnots:
		return api.Many
	}
	return terms.EachSnag(len(w.Knots), w.knotSnag)
}

func (w wood) knotSnag(i int) api.Snag {
	switch {
	case !terms.IsSpan(w.Knots[i], 0, w.Long-1):
		return api.Range
	case i > 0 && w.Knots[i].Low <= w.Knots[i-1].High:
		return api.Turned
	}
	return api.Clear
}

func (b book) tapesSnag() api.Snag {
	if len(b.Tapes) > api.MaxMouldTapes {
		return api.Many
	}
	return terms.EachSnag(len(b.Tapes), b.tapeSnag)
}

func (b book) tapeSnag(i int) api.Snag {
	t := b.Tapes[i]
	return terms.SumSnag(t.Pieces, len(b.Pieces), t.Sum, api.MaxMouldSum)
}

// cutsSnag returns the snag of a cutting.
func (b book) cutsSnag(cuts []api.MouldCut) api.Snag {
	if len(cuts) != len(b.Pieces) {
		return api.Many
	}
	for _, cut := range cuts {
		switch {
		case !terms.IsIndex(cut.Board, len(b.Boards)):
			return api.Absent
		case terms.IsOut(cut.From, api.MaxMouldLong):
			return api.Range
		}
	}
	return api.Clear
}
