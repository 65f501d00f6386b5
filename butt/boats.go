package butt

import (
	"iter"
	"slices"

	"ribband/api"
	"ribband/terms"
)

// boards has how many boards there are of each kind. What is behind the last kind is 0.
type boards [api.MaxButtKinds]int

func boardsOf(list []int) boards {
	var x boards
	copy(x[:], list)
	return x
}

// list returns the numbers of boards of all kinds.
func (b book) list(x boards) []int { return slices.Clone(x[:len(b.Kinds)]) }

// boats yields all boats, the least list first.
func (c checked) boats() iter.Seq[boards] {
	return func(yield func(boards) bool) {
		for list := range terms.Choices(c.spans()...) {
			if x := boardsOf(list); c.agrees(x) && !yield(x) {
				return
			}
		}
	}
}

// spans returns the numbers that there can be of boards of each kind.
func (b book) spans() []api.Span {
	var list []api.Span
	for _, k := range b.Kinds {
		list = append(list, k.Many)
	}
	return list
}

// agrees tells whether all notes are right about numbers of boards.
func (b book) agrees(x boards) bool {
	return !slices.ContainsFunc(b.Notes, func(n api.ButtNote) bool {
		return !terms.IsSum(x[:], n.Kinds, n.Sum)
	})
}

// tally counts the boats by their numbers of boards.
func (c checked) tally() terms.Tally { return terms.TallyOf(c.boats(), c.list) }
