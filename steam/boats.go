package steam

import (
	"iter"
	"slices"

	"ribband/api"
	"ribband/terms"
)

// times has for how many ticks each plank is in the box. What is behind the last plank is 0.
type times [api.MaxSteamPlanks]int

func timesOf(list []int) times {
	var x times
	copy(x[:], list)
	return x
}

// list returns the times of all planks.
func (b book) list(x times) []int { return slices.Clone(x[:len(b.Planks)]) }

// boats yields all boats, the least list first.
func (c checked) boats() iter.Seq[times] {
	return func(yield func(times) bool) {
		for list := range terms.Choices(c.spans()...) {
			if x := timesOf(list); c.agrees(x) && !yield(x) {
				return
			}
		}
	}
}

// spans returns the times that each plank can have.
func (b book) spans() []api.Span {
	var list []api.Span
	for _, p := range b.Planks {
		list = append(list, p.Steam)
	}
	return list
}

// agrees tells whether all notes are right about times.
func (b book) agrees(x times) bool {
	return !slices.ContainsFunc(b.Notes, func(n api.SteamNote) bool {
		return !terms.IsSum(x[:], n.Planks, n.Sum)
	})
}

// tally counts the boats by their times.
func (c checked) tally() terms.Tally { return terms.TallyOf(c.boats(), c.list) }
