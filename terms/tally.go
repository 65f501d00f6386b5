package terms

import (
	"iter"
	"slices"

	"ribband/api"
)

// held is a number, and the index of what it is of: a height at a station, say, or the breadth of a point.
type held struct{ index, number int }

// Tally is how many boats there are, and how many of them have a number.
type Tally struct {
	boats int
	with  map[held]int
}

// TallyOf counts boats, by the numbers that each of them has.
func TallyOf[T any](boats iter.Seq[T], numbers func(T) []int) Tally {
	t := Tally{with: map[held]int{}}
	for boat := range boats {
		t.boats++
		for i, n := range numbers(boat) {
			t.with[held{i, n}]++
		}
	}
	return t
}

// Boats returns how many boats there are.
func (t Tally) Boats() int { return t.boats }

// With returns how many boats have a number at an index.
func (t Tally) With(index, number int) int { return t.with[held{index, number}] }

// Numbers returns the numbers that boats have at an index, ascending, unless there is no boat.
func (t Tally) Numbers(index int) ([]int, api.Snag) {
	if t.boats == 0 {
		return nil, api.Foul
	}
	return t.numbers(index), api.Clear
}

func (t Tally) numbers(index int) []int {
	var list []int
	for h := range t.with {
		if h.index == index {
			list = append(list, h.number)
		}
	}
	slices.Sort(list)
	return list
}

// Ask returns the first of so many indexes whose number, once it is known, leaves the fewest boats in the worst case, and how many these are; -1 if none leaves fewer than there are. It has a snag if there is no boat.
func (t Tally) Ask(many int) (at, left int, s api.Snag) {
	if t.boats == 0 {
		return 0, 0, api.Foul
	}
	at, left = -1, t.boats
indexes:
	for i := range many {
		worst := 0
		for _, n := range t.numbers(i) {
			worst = max(worst, t.With(i, n))
			if worst >= left {
				continue indexes
			}
		}
		at, left = i, worst
	}
	return at, left, api.Clear
}
