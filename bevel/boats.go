package bevel

import (
	"iter"

	"ribband/api"
	"ribband/terms"
)

// boat has the offset of each frame, the bevels that these make, and which readings are wrong.
type boat struct {
	offsets, bevels row
	wrong           [api.MaxBevelReadings]bool
}

// reckoner keeps the bevels that it reckoned, as boats that differ by their wrong readings have the same offsets again.
type reckoner struct {
	checked
	kept map[row]row
}

// reckoner returns one for a single use: nobody else writes to what it keeps.
func (c checked) reckoner() reckoner { return reckoner{c, map[row]row{}} }

func (r reckoner) bevelsOf(offsets row) row {
	bevels, found := r.kept[offsets]
	if !found {
		bevels = r.reckon(offsets)
		r.kept[offsets] = bevels
	}
	return bevels
}

// boat returns what is a boat if the offsets can be and the other readings are right.
func (r reckoner) boat(offsets, wrong []int) boat {
	x := boat{offsets: rowOf(offsets)}
	x.bevels = r.bevelsOf(x.offsets)
	for _, reading := range wrong {
		x.wrong[reading] = true
	}
	return x
}

// boatsWith yields the boats in which just these readings are wrong, the least offsets first.
func (r reckoner) boatsWith(wrong []int) iter.Seq[boat] {
	return func(yield func(boat) bool) {
		for offsets := range terms.Choices(r.Offsets...) {
			if x := r.boat(offsets, wrong); r.agrees(x) && !yield(x) {
				return
			}
		}
	}
}

// agrees tells whether all readings that are not wrong are right about a boat.
func (b book) agrees(x boat) bool {
	for i, r := range b.Readings {
		if !x.wrong[i] && !terms.Has(r.Bevel, x.bevels[r.Frame]) {
			return false
		}
	}
	return true
}

// boats yields all boats: those with the fewest wrong readings first.
func (c checked) boats() iter.Seq[boat] {
	return func(yield func(boat) bool) {
		r := c.reckoner()
		for wrong := range terms.Lists(c.readings(), c.Wrong) {
			for x := range r.boatsWith(wrong) {
				if !yield(x) {
					return
				}
			}
		}
	}
}

// byOffsets counts the boats by the offsets of frames.
func (c checked) byOffsets() terms.Tally {
	return terms.TallyOf(c.boats(), func(x boat) []int { return x.offsets[:c.frames()] })
}

// byBevels counts the boats by the bevels at frames.
func (c checked) byBevels() terms.Tally {
	return terms.TallyOf(c.boats(), func(x boat) []int { return x.bevels[:c.bevels()] })
}
