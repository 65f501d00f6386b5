package mould

import (
	"iter"
	"slices"

	"ribband/api"
	"ribband/terms"
)

// look is how a board is looked at: for a piece that is so long, and bears so many knots.
type look struct{ board, long, bears int }

// bench is where cuttings are looked for that surely do. Each thing that a cutting must do asks for the length of one piece alone: so it surely does if it does for the greatest length of each piece, though these can be no boat together.
type bench struct {
	checked
	long   lengths
	looked map[look][]int // from which places on a piece can be cut
}

// bench looks at all boards, for each piece, unless there is no boat.
func (c checked) bench() (bench, api.Snag) {
	long, s := c.greatest()
	if s != api.Clear {
		return bench{}, s
	}
	h := bench{c, long, map[look][]int{}}
	for piece := range c.Pieces {
		for board := range c.Boards {
			k := h.look(piece, board)
			if _, done := h.looked[k]; !done {
				h.looked[k] = c.wood(board).places(k.long, k.bears)
			}
		}
	}
	return h, api.Clear
}

func (h bench) look(piece, board int) look {
	return look{board, h.long[piece], h.Pieces[piece].Bears}
}

// surely tells whether a cutting surely does.
func (h bench) surely(x cutting) bool { return h.fits(x, h.long) }

// cuttings yields the cuttings from some boards, ascending, that surely do, the least one first.
func (h bench) cuttings(boards []int) iter.Seq[cutting] {
	return func(yield func(cutting) bool) {
		var x cutting
		var fill func(piece int) bool
		fill = func(piece int) bool {
			if piece == len(h.Pieces) {
				return yield(x)
			}
			for _, board := range boards {
				for _, from := range h.looked[h.look(piece, board)] {
					x[piece] = api.MouldCut{Board: board, From: from}
					if h.isFree(x, h.long, piece) && !fill(piece+1) {
						return false
					}
				}
			}
			return true
		}
		fill(0)
	}
}

// firsts yields, for each list of boards from which a cutting surely does, the least one of these. The best cutting is among them: the least one from its boards takes no others, and is not greater.
func (h bench) firsts() iter.Seq[cutting] {
	return func(yield func(cutting) bool) {
		for boards := range terms.Lists(len(h.Boards), len(h.Boards)) {
			if x, found := terms.First(h.cuttings(boards)); found && !yield(x) {
				return
			}
		}
	}
}

// taken returns the boards from which a cutting takes a piece.
func (h bench) taken(x cutting) []int {
	var list []int
	for _, cut := range x[:len(h.Pieces)] {
		list = append(list, cut.Board)
	}
	slices.Sort(list)
	return slices.Compact(list)
}

func (h bench) boards(x cutting) int { return len(h.taken(x)) }

// boardsLong returns how long the boards of a cutting are together.
func (h bench) boardsLong(x cutting) int {
	sum := 0
	for _, board := range h.taken(x) {
		sum += h.Boards[board].Long
	}
	return sum
}

// aim is what the best cutting has least of.
type aim int

const (
	fewest aim = iota
	shortest
	least
)

// measure tells how much of something a cutting has.
type measure struct{ of func(cutting) int }

func (h bench) measures() [3]measure {
	return [...]measure{
		fewest:   {h.boards},
		shortest: {h.boardsLong},
		least:    {cutting.rank},
	}
}

// best returns the best cutting that surely does, of several the least one, and how much it has of what is aimed at.
func (h bench) best(a aim) (cuts []api.MouldCut, much int, found bool) {
	all := h.measures()
	x, found := terms.Best(h.firsts(), terms.Least(all[a].of), terms.Least(all[least].of))
	if !found {
		return nil, 0, false
	}
	return h.cuts(x), all[a].of(x), true
}

// needed returns the boards without each of which by itself no cutting surely does. All are left out at once.
func (h bench) needed() []int {
	var boards []int
	for board := range h.Boards {
		boards = append(boards, board)
	}
	return terms.Which(boards, h.isNeeded)
}

func (h bench) isNeeded(board int) bool { return !terms.IsAny(h.cuttings(h.without(board))) }

// without returns all boards but one.
func (h bench) without(board int) []int {
	var others []int
	for i := range h.Boards {
		if i != board {
			others = append(others, i)
		}
	}
	return others
}

// spare returns how many places each board has left at its end, behind all pieces of a cutting.
func (h bench) spare(x cutting) []int {
	var list []int
	for _, w := range h.Boards {
		list = append(list, w.Long)
	}
	for piece := range h.Pieces {
		board := x[piece].Board
		list[board] = min(list[board], h.Boards[board].Long-1-x.places(h.long, piece).High)
	}
	return list
}
