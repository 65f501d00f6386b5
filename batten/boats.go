package batten

import (
	"iter"

	"ribband/terms"
)

// boats yields all boats, the least list first.
func (c checked) boats() iter.Seq[line] {
	return func(yield func(line) bool) {
		var l line
		var fill func(station int) bool
		fill = func(station int) bool {
			if station == len(c.Marks) {
				return yield(l)
			}
			mark := c.Marks[station]
			for height := mark.Low; height <= mark.High; height++ {
				l[station] = height
				if c.bears(l[:station+1]) && c.obeys(l, station) && !fill(station+1) {
					return false
				}
			}
			return true
		}
		fill(0)
	}
}

// tally counts the boats by their heights.
func (c checked) tally() terms.Tally { return terms.TallyOf(c.boats(), c.heights) }

// must returns the stations at which no boat has the height of a line.
func (c checked) must(t terms.Tally, l line) []int {
	var list []int
	for station := range len(c.Marks) {
		if t.With(station, l[station]) == 0 {
			list = append(list, station)
		}
	}
	return list
}

// pulls yields, for each boat, the stations that are pulled.
func (c checked) pulls(f floor) iter.Seq[[]int] {
	return func(yield func([]int) bool) {
		for boat := range c.boats() {
			if !yield(f.pulled(boat)) {
				return
			}
		}
	}
}

func length(list []int) int { return len(list) }
