package batten

import (
	"cmp"
	"iter"

	"ribband/api"
	"ribband/terms"
)

// boats yields all boats, the least list first.
func (c checked) boats() iter.Seq[line] {
	return func(yield func(line) bool) {
		var l line
		var fill func(station int) bool
		fill = func(station int) bool {
			if station == len(c.Marks) {
				return yield(l)
			}
			mark := c.Marks[station]
			for height := mark.Low; height <= mark.High; height++ {
				l[station] = height
				if c.bears(l[:station+1]) && c.obeys(l, station) && !fill(station+1) {
					return false
				}
			}
			return true
		}
		fill(0)
	}
}

func (c checked) hasBoat() bool {
	for range c.boats() {
		return true
	}
	return false
}

func (c checked) isBoat(l line) bool {
	for boat := range c.boats() {
		if boat == l {
			return true
		}
	}
	return false
}

// held is a height at a station.
type held struct{ station, height int }

// tally is how many boats there are, and how many of them have a height.
type tally struct {
	boats int
	with  map[held]int
}

func (c checked) tally() tally {
	t := tally{with: map[held]int{}}
	for boat := range c.boats() {
		t.boats++
		for station := range len(c.Marks) {
			t.with[held{station, boat[station]}]++
		}
	}
	return t
}

// heightsAt returns the heights at a station that boats have, ascending.
func (c checked) heightsAt(t tally, station int) []int {
	var list []int
	mark := c.Marks[station]
	for height := mark.Low; height <= mark.High; height++ {
		if t.with[held{station, height}] > 0 {
			list = append(list, height)
		}
	}
	return list
}

// must returns the stations at which no boat has the height of a line.
func (c checked) must(t tally, l line) []int {
	var list []int
	for station := range len(c.Marks) {
		if t.with[held{station, l[station]}] == 0 {
			list = append(list, station)
		}
	}
	return list
}

// sure returns how sure it is that the answer to a question is yes, unless there is no boat.
func (c checked) sure(question func(line) bool) (api.Sure, api.Snag) {
	many, all := 0, 0
	for boat := range c.boats() {
		all++
		if question(boat) {
			many++
		}
	}
	if all == 0 {
		return api.Open, api.Foul
	}
	return terms.SureOf(many, all), api.Clear
}

// best returns the first of those that no other one comes before, if there are any. What decides first is asked first.
func best[T any](all iter.Seq[T], decides ...func(a, b T) int) (first T, found bool) {
	for x := range all {
		if !found || isBefore(x, first, decides) {
			first, found = x, true
		}
	}
	return first, found
}

func isBefore[T any](a, b T, decides []func(a, b T) int) bool {
	for _, decide := range decides {
		if n := decide(a, b); n != 0 {
			return n < 0
		}
	}
	return false
}

// least decides by which one has the least of what is asked.
func least[T any](question func(T) int) func(a, b T) int {
	return func(a, b T) int { return cmp.Compare(question(a), question(b)) }
}

// pulls yields, for each boat, the stations that are pulled.
func (c checked) pulls(f floor) iter.Seq[[]int] {
	return func(yield func([]int) bool) {
		for boat := range c.boats() {
			if !yield(f.pulled(boat)) {
				return
			}
		}
	}
}

func length(list []int) int { return len(list) }
