package mould

import (
	"iter"
	"slices"

	"ribband/api"
	"ribband/terms"
)

// lengths has the length of each piece. What is behind the last piece is 0.
type lengths [api.MaxMouldPieces]int

func lengthsOf(list []int) lengths {
	var l lengths
	copy(l[:], list)
	return l
}

func (l lengths) total() int { return terms.Sum(l[:]...) }

// boats yields all boats, the least list first.
func (c checked) boats() iter.Seq[lengths] {
	return func(yield func(lengths) bool) {
		for list := range terms.Choices(c.spans()...) {
			if l := lengthsOf(list); c.agrees(l) && !yield(l) {
				return
			}
		}
	}
}

// spans returns the lengths that each piece can have.
func (b book) spans() []api.Span {
	var list []api.Span
	for _, p := range b.Pieces {
		list = append(list, p.Length)
	}
	return list
}

// agrees tells whether all tapes are right about lengths.
func (b book) agrees(l lengths) bool {
	return !slices.ContainsFunc(b.Tapes, func(t api.MouldTape) bool {
		return !terms.IsSum(l[:], t.Pieces, t.Sum)
	})
}

// tally counts the boats by their lengths.
func (c checked) tally() terms.Tally { return terms.TallyOf(c.boats(), c.list) }

// list returns the lengths of all pieces.
func (b book) list(l lengths) []int { return slices.Clone(l[:len(b.Pieces)]) }

// greatest returns, for each piece, the greatest length that it has in a boat, unless there is no boat.
func (c checked) greatest() (lengths, api.Snag) {
	var most lengths
	for boat := range c.boats() {
		for piece, long := range boat {
			most[piece] = max(most[piece], long)
		}
	}
	if most == (lengths{}) {
		return lengths{}, api.Foul
	}
	return most, api.Clear
}
