package mould

import (
	"slices"

	"ribband/api"
)

// cutting has the cut of each piece. What is behind the last piece is zero.
type cutting [api.MaxMouldPieces]api.MouldCut

// places returns the places that a piece takes.
func (x cutting) places(l lengths, piece int) api.Span { return placesOf(x[piece].From, l[piece]) }

// rank returns how many cuttings there could be that are less.
func (x cutting) rank() int {
	const froms = api.MaxMouldLong + 1
	rank := 0
	for _, cut := range x {
		rank = (rank*api.MaxMouldBoards+cut.Board)*froms + cut.From
	}
	return rank
}

// cuts returns the cuts of all pieces.
func (b book) cuts(x cutting) []api.MouldCut { return slices.Clone(x[:len(b.Pieces)]) }

// fits tells whether a cutting does for lengths.
func (b book) fits(x cutting, l lengths) bool {
	for piece, p := range b.Pieces {
		w, places := b.wood(x[piece].Board), x.places(l, piece)
		if !w.holds(places) || w.met(places) > p.Bears || !b.isFree(x, l, piece) {
			return false
		}
	}
	return true
}

// isFree tells whether a piece is far enough from all pieces before it.
func (b book) isFree(x cutting, l lengths, piece int) bool {
	for other := range piece {
		if x[other].Board == x[piece].Board && !b.areApart(x.places(l, other), x.places(l, piece)) {
			return false
		}
	}
	return true
}

// areApart tells whether the saw has its places between those of two pieces.
func (b book) areApart(x, y api.Span) bool {
	return y.Low-x.High > b.Saw || x.Low-y.High > b.Saw
}

// attempt is a cutting that is tried.
type attempt struct {
	book
	cutting
}

func (a attempt) does(l lengths) bool { return a.fits(a.cutting, l) }
