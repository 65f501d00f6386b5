package batten

import (
	"slices"

	"ribband/api"
	"ribband/terms"
)

const (
	leastStations = 3
	leastOver     = 2
)

// line has the height of each station. What is behind the last station is 0.
type line [api.MaxBattenStations]int

// steps returns by how much each number is above the one before it.
func steps(list []int) []int {
	out := make([]int, max(len(list), 1)-1)
	for i := range out {
		out[i] = list[i+1] - list[i]
	}
	return out
}

// bendsOf returns by how much a line rises more behind a station than before it: that is the bend there.
func bendsOf(heights []int) []int { return steps(steps(heights)) }

func twistsOf(bends []int) []int { return steps(bends) }

func turnsOf(bends []int) int {
	turns, last := 0, 0
	for _, bend := range bends {
		if bend == 0 {
			continue
		}
		if last != 0 && (bend > 0) != (last > 0) {
			turns++
		}
		last = bend
	}
	return turns
}

// bears tells whether the batten can be bent like this. If it can not, it can not, either, as the beginning of a longer line.
func (b book) bears(heights []int) bool {
	bends := bendsOf(heights)
	return allWithin(bends, b.Bend) && allWithin(twistsOf(bends), b.Twist) && turnsOf(bends) <= b.Turns
}

// allWithin tells whether no number is above most, or below -most.
func allWithin(list []int, most int) bool {
	return !slices.ContainsFunc(list, func(n int) bool { return n > most || n < -most })
}

// obeys tells whether the rules are right that end at a station of a line.
func (b book) obeys(l line, station int) bool {
	return !slices.ContainsFunc(b.Rules, func(r api.BattenRule) bool {
		return r.B == station && !terms.Has(r.Rise, l[r.B]-l[r.A])
	})
}

// strain is the sum of the squares of the bends.
func (b book) strain(l line) int {
	sum := 0
	for _, bend := range bendsOf(b.heights(l)) {
		sum += bend * bend
	}
	return sum
}

// heights returns those of all stations of a line.
func (b book) heights(l line) []int { return slices.Clone(l[:len(b.Marks)]) }

// inside is a station that is neither the first one nor the last one.
type inside int

func (i inside) hollow(l line) bool {
	return bendsOf(l[i-1 : i+2])[0] > 0
}

// floor is where boats are held against a line with so many stations.
type floor struct {
	line
	stations int
}

// distances returns how far a boat is from the line at each station.
func (f floor) distances(boat line) []int {
	list := make([]int, f.stations)
	for station := range list {
		list[station] = max(boat[station]-f.line[station], f.line[station]-boat[station])
	}
	return list
}

func (f floor) moved(boat line) int {
	sum := 0
	for _, far := range f.distances(boat) {
		sum += far
	}
	return sum
}

func (f floor) farthest(boat line) int { return slices.Max(f.distances(boat)) }

// pulled returns the stations at which a boat has other heights than the line.
func (f floor) pulled(boat line) []int {
	var list []int
	for station, far := range f.distances(boat) {
		if far > 0 {
			list = append(list, station)
		}
	}
	return list
}
