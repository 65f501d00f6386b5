package yard

import (
	"slices"

	"ribband/api"
	"ribband/batten"
	"ribband/bevel"
	"ribband/butt"
	"ribband/frame"
	"ribband/mould"
	"ribband/offsets"
	"ribband/spile"
	"ribband/steam"
	"ribband/terms"
)

func (c checked) showsWrong(most int, list []int) bool {
	cells, _ := offsets.Cells(c.Table)
	if !areSome(list, len(cells), most) {
		return false
	}
	rest := c.Table
	for _, i := range list {
		rest, _ = offsets.Drop(rest, cells[i])
	}
	sound, _ := offsets.Sound(rest)
	return sound
}

// areSome tells whether a list has indexes of so many elements, ascending, with most of them at most.
func areSome(list []int, many, most int) bool {
	return len(list) <= most && terms.IndexesSnag(list, many) == api.Clear
}

func (c checked) showsStraight(most int, line []int) bool {
	if is, _ := batten.IsBoat(c.Line, line); !is {
		return false
	}
	bends, _ := batten.Bends(c.Line, line)
	strain := 0
	for _, n := range bends {
		strain += n * n
	}
	return strain <= most
}

func (c checked) showsLean(most int, breadths []int) bool {
	if is, _ := frame.IsBoat(c.Frame, breadths); !is {
		return false
	}
	area, _ := frame.Area(c.Frame, breadths)
	return area <= most
}

func (c checked) showsCut(most int, list []int) bool {
	var cuts []api.MouldCut
	boards := map[int]bool{}
	for x := range slices.Chunk(list, 2) {
		if len(x) < 2 {
			return false
		}
		cuts = append(cuts, api.MouldCut{Board: x[0], From: x[1]})
		boards[x[0]] = true
	}
	sure, _ := mould.Does(c.Mould, cuts)
	return sure == api.Yes && len(boards) <= most
}

func (c checked) showsPlanked(most int, list []int) bool {
	layout, ok := layoutOf(list)
	if !ok {
		return false
	}
	sure, _ := butt.Can(c.Butts, layout)
	planks := len(list) // one ends at each butt, and one at the end of each strake, for which there is a 0
	return sure == api.Yes && planks <= most
}

// layoutOf returns the layout that is told by a list, if there is a 0 behind the butts of each strake.
func layoutOf(list []int) (layout [][]int, ok bool) {
	var butts []int
	for _, n := range list {
		if n != 0 {
			butts = append(butts, n)
			continue
		}
		layout = append(layout, butts)
		butts = nil
	}
	return layout, len(butts) == 0
}

// showsShift asks whether the least and the greatest gap of each point, shifted, lie on the board: then those between them do.
func (c checked) showsShift(_ int, list []int) bool {
	if len(list) != 1 {
		return false
	}
	var least, greatest []int
	for point := range c.Spile.Points {
		gaps, _ := spile.Gap(c.Spile, point)
		least = append(least, gaps[0])
		greatest = append(greatest, gaps[len(gaps)-1])
	}
	return c.canShift(least, list[0]) && c.canShift(greatest, list[0])
}

// canShift tells whether gaps that are shifted by a number lie on the board.
func (c checked) canShift(gaps []int, by int) bool {
	x, found, _ := spile.Shifts(c.Spile, gaps)
	return found && terms.Has(x, by)
}

func (c checked) showsRead(most int, list []int) bool {
	if !areSome(list, len(c.Bevel.Readings), most) {
		return false
	}
	rest := c.Bevel
	for _, i := range slices.Backward(list) { // a reading that is dropped changes the indexes of later ones
		rest, _ = bevel.Drop(rest, i)
	}
	clash, _ := bevel.Clash(rest)
	return len(clash) == 0
}

func (c checked) showsHands(most int, list []int) bool {
	if len(list) == 0 || !terms.Has(terms.UpTo(min(most, api.MaxSteamHands)), list[0]) {
		return false
	}
	sure, _ := steam.Good(withHands(c.Steam, list[0]), list[1:])
	return sure == api.Yes
}

func (c checked) showsSettled(part int, list []int) bool {
	return len(list) == 0 && c.counts().isSettled(part)
}
