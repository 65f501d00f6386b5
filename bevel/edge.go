package bevel

import (
	"ribband/api"
	"ribband/terms"
)

// row has a number for each frame: its offset, or its bevel. What is behind the last one is 0.
type row [api.MaxBevelFrames]int

func rowOf(list []int) row {
	var r row
	copy(r[:], list)
	return r
}

// reckon returns the bevels that offsets make.
func (b book) reckon(offsets row) row {
	var bevels row
	for frame, rise := range terms.Steps(offsets[:b.frames()]) {
		bevels[frame] = divide(rise*b.Scale, b.Run)
	}
	return bevels
}

// divide rounds down, also below 0. What it divides by is above 0.
func divide(n, by int) int {
	if n%by < 0 {
		return n/by - 1
	}
	return n / by
}

// passes returns how often a plane goes over an edge that is bevelled so much.
func (b book) passes(bevel int) int { return -divide(-max(bevel, -bevel), b.Bite) }

// part is a part of an edge: from a frame to a later one.
type part struct {
	checked
	from, to int
}

// along returns the bevels of a boat at all frames of the part but the last one.
func (p part) along(x boat) []int { return x.bevels[p.from:p.to] }

// follows tells whether a plane follows at each frame between both.
func (p part) follows(x boat) bool { return terms.AllWithin(terms.Steps(p.along(x)), p.Follow) }

// most returns the passes at the frame that needs the most.
func (p part) most(x boat) int {
	most := 0
	for _, bevel := range p.along(x) {
		most = max(most, p.passes(bevel))
	}
	return most
}

// breaks returns the frames at which a plane does not follow in some boat, ascending, unless there is no boat.
func (c checked) breaks() ([]int, api.Snag) {
	if !terms.IsAny(c.boats()) {
		return nil, api.Foul
	}
	var list []int
frames:
	for from := range c.bevels() - 1 {
		around := part{c, from, from + 2}
		for x := range c.boats() {
			if !around.follows(x) {
				list = append(list, from+1)
				continue frames
			}
		}
	}
	return list, api.Clear
}
