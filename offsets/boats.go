package offsets

import (
	"iter"
	"slices"
	"sync"

	"ribband/api"
	"ribband/terms"
)

const (
	mostCells = 2 * api.MaxOffsetsLines * api.MaxOffsetsStations
	astray    = -1
)

// boat has the measure of each cell, in order, or astray for one that is wrong. What is behind the last cell is 0.
type boat [mostCells]int

// agree tells whether the skin does not fall in between two cells of a station, of which x is the first one in order.
func agree(x cell, one int, y cell, two int) bool {
	switch {
	case x.Butt == y.Butt:
		return one <= two
	case two < x.at:
		return one >= y.at
	case two > x.at:
		return one <= y.at
	}
	return true
}

// holds tells whether the skin falls in at no station.
func (c checked) holds(b boat) bool {
	good := true
stations:
	for station := range len(c.Stations) {
		here := c.station[station]
		for k, j := range here {
			for _, i := range here[:k] {
				if b[i] == astray || b[j] == astray || agree(c.cells[i], b[i], c.cells[j], b[j]) {
					continue
				}
				good = false
				break stations
			}
		}
	}
	return good
}

// boatsWith yields the boats in which just these cells are wrong.
func (c checked) boatsWith(wrong []int) iter.Seq[boat] {
	return func(yield func(boat) bool) {
		var b boat
		for _, i := range wrong {
			b[i] = astray
		}
		var fill func(i int) bool
		fill = func(i int) bool {
			if i == len(c.cells) {
				return !c.holds(b) || yield(b)
			}
			if b[i] == astray {
				return fill(i + 1)
			}
			for _, measure := range c.cells[i].can {
				b[i] = measure
				if !fill(i + 1) {
					return false
				}
			}
			return true
		}
		fill(0)
	}
}

// boats yields all boats.
func (c checked) boats() iter.Seq[boat] {
	return func(yield func(boat) bool) {
		for wrong := range terms.Lists(len(c.cells), c.Wrong) {
			for b := range c.boatsWith(wrong) {
				if !yield(b) {
					return
				}
			}
		}
	}
}

// tally is how many boats there are, in how many of them each cell is wrong, and in how many it has each measure.
type tally struct {
	boats int
	wrong []int
	with  []map[int]int
}

func newTally(cells int) tally {
	t := tally{wrong: make([]int, cells), with: make([]map[int]int, cells)}
	for i := range cells {
		t.with[i] = map[int]int{}
	}
	return t
}

func (t tally) add(other tally) tally {
	t.boats += other.boats
	for i, n := range other.wrong {
		t.wrong[i] += n
		for measure, many := range other.with[i] {
			t.with[i][measure] += many
		}
	}
	return t
}

func (c checked) tallyWith(wrong []int) tally {
	t := newTally(len(c.cells))
	for b := range c.boatsWith(wrong) {
		t.boats++
		for i := range c.cells {
			if b[i] == astray {
				t.wrong[i]++
			} else {
				t.with[i][b[i]]++
			}
		}
	}
	return t
}

// tally counts all boats. Tallies are added in whatever order they come, as their sum is the same.
func (c checked) tally() tally {
	all := slices.Collect(terms.Lists(len(c.cells), c.Wrong))
	tallies := make(chan tally, len(all))
	var group sync.WaitGroup
	for _, wrong := range all {
		group.Add(1)
		go func() {
			defer group.Done()
			tallies <- c.tallyWith(wrong)
		}()
	}
	group.Wait()
	close(tallies)
	sum := newTally(len(c.cells))
	for t := range tallies {
		sum = sum.add(t)
	}
	return sum
}
