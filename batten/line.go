package batten

import (
	"slices"

	"ribband/api"
	"ribband/terms"
)

const (
	leastStations = 3
	leastOver     = 2
)

// line has the height of each station. What is behind the last station is 0.
type line [api.MaxBattenStations]int

func twistsOf(heights []int) []int { return terms.Steps(terms.Bends(heights)) }

func turnsOf(heights []int) int {
	turns, last := 0, 0
	for _, bend := range terms.Bends(heights) {
		if bend == 0 {
			continue
		}
		if last != 0 && (bend > 0) != (last > 0) {
			turns++
		}
		last = bend
	}
	return turns
}

// bears tells whether the batten can be bent like this. If it can not, it can not, either, as the beginning of a longer line.
func (b book) bears(heights []int) bool {
	return terms.AllWithin(terms.Bends(heights), b.Bend) && terms.AllWithin(twistsOf(heights), b.Twist) && turnsOf(heights) <= b.Turns
}

// obeys tells whether the rules are right that end at a station of a line.
func (b book) obeys(l line, station int) bool {
	return !slices.ContainsFunc(b.Rules, func(r api.BattenRule) bool {
		return r.B == station && !terms.Has(r.Rise, l[r.B]-l[r.A])
	})
}

// strain is the sum of the squares of the bends.
func (b book) strain(l line) int {
	sum := 0
	for _, bend := range terms.Bends(b.heights(l)) {
		sum += bend * bend
	}
	return sum
}

// heights returns those of all stations of a line.
func (b book) heights(l line) []int { return slices.Clone(l[:len(b.Marks)]) }

// inside is a station that is neither the first one nor the last one.
type inside int

func (i inside) hollow(l line) bool {
	return terms.Bends(l[i-1 : i+2])[0] > 0
}

// floor is where boats are held against a line with so many stations.
type floor struct {
	line
	stations int
}

// distances returns how far a boat is from the line at each station.
func (f floor) distances(boat line) []int {
	list := make([]int, f.stations)
	for station := range list {
		list[station] = max(boat[station]-f.line[station], f.line[station]-boat[station])
	}
	return list
}

func (f floor) moved(boat line) int {
	sum := 0
	for _, far := range f.distances(boat) {
		sum += far
	}
	return sum
}

func (f floor) farthest(boat line) int { return slices.Max(f.distances(boat)) }

// pulled returns the stations at which a boat has other heights than the line.
func (f floor) pulled(boat line) []int {
	var list []int
	for station, far := range f.distances(boat) {
		if far > 0 {
			list = append(list, station)
		}
	}
	return list
}
