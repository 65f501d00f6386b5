// Package offsets reads a table of offsets, of which some figures are smudged and some were copied wrongly. It is specified in shared/doc/01-offsets.md.
package offsets

import (
	"errors"
	"maps"
	"slices"

	"ribband/api"
	"ribband/terms"
)

// CheckTable returns the snag of a table.
func CheckTable(t api.OffsetsTable) api.Snag {
	return table{t}.snag()
}

// Measure returns the least and the greatest measure that a figure can be, and how many it can be.
func Measure(figure string) (least, most, many int, s api.Snag) {
	p, ok := readParts(figure)
	if !ok {
		return 0, 0, 0, api.Form
	}
	return p.least(), p.most(), p.many(), api.Clear
}

// Figure returns the figure of a measure.
func Figure(measure int) (string, api.Snag) {
	if !isMeasure(measure) {
		return "", api.Range
	}
	return partsOf(measure).figure(), api.Clear
}

// Cells returns the cells of a table, in order.
func Cells(t api.OffsetsTable) ([]api.OffsetsCell, api.Snag) {
	c, s := check(t)
	if s != api.Clear {
		return nil, s
	}
	var list []api.OffsetsCell
	for _, x := range c.cells {
		list = append(list, x.OffsetsCell)
	}
	return list, api.Clear
}

// IsBoat tells whether wrong cells, and measures for all cells, are a boat.
func IsBoat(t api.OffsetsTable, wrong []int, measures []int) (bool, api.Snag) {
	c, s := check(t)
	if s != api.Clear {
		return false, s
	}
	if s := claimSnag(len(c.cells), wrong, measures); s != api.Clear {
		return false, s
	}
	if len(wrong) > c.Wrong {
		return false, api.Clear
	}
	var claim boat
	copy(claim[:], measures)
	for _, i := range wrong {
		claim[i] = astray
	}
	for b := range c.boatsWith(wrong) {
		if b == claim {
			return true, api.Clear
		}
	}
	return false, api.Clear
}

// claimSnag returns the snag of wrong cells and measures that are claimed to be a boat of so many cells.
func claimSnag(cells int, wrong, measures []int) api.Snag {
	if s := terms.IndexesSnag(wrong, cells); s != api.Clear {
		return s
	}
	return terms.NumbersSnag(measures, cells, api.Span{High: api.MaxOffsetsMeasure})
}

// Boats returns how many boats a table has.
func Boats(t api.OffsetsTable) (int, api.Snag) {
	c, s := check(t)
	if s != api.Clear {
		return 0, s
	}
	return c.tally().boats, api.Clear
}

// Can returns the measures that a cell has in boats in which it is not wrong.
func Can(t api.OffsetsTable, c api.OffsetsCell) ([]int, api.Snag) {
	found, i, s := find(t, c)
	if s != api.Clear {
		return nil, s
	}
	sum := found.tally()
	if sum.boats == 0 {
		return nil, api.Foul
	}
	return slices.Sorted(maps.Keys(sum.with[i])), api.Clear
}

// Wrong returns whether a cell is wrong.
func Wrong(t api.OffsetsTable, c api.OffsetsCell) (api.Sure, api.Snag) {
	found, i, s := find(t, c)
	if s != api.Clear {
		return api.Open, s
	}
	sum := found.tally()
	if sum.boats == 0 {
		return api.Open, api.Foul
	}
	return terms.SureOf(sum.wrong[i], sum.boats), api.Clear
}

// Sound returns whether there is a boat in which no cell is wrong.
func Sound(t api.OffsetsTable) (bool, api.Snag) {
	c, s := check(t)
	if s != api.Clear {
		return false, s
	}
	return terms.IsAny(c.boatsWith(nil)), api.Clear
}

// Fewest returns the fewest cells that are wrong, however many the table allows.
func Fewest(t api.OffsetsTable) ([]int, api.Snag) {
	c, s := check(t)
	if s != api.Clear {
		return nil, s
	}
	for wrong := range terms.Lists(len(c.cells), len(c.cells)) {
		if terms.IsAny(c.boatsWith(wrong)) {
			return wrong, api.Clear
		}
	}
	return nil, api.Clear
}

// Breadth returns within what the skin lies at a height, at a station.
func Breadth(t api.OffsetsTable, station, height int) (api.Span, api.Snag) {
	return within(t, false, station, height)
}

// Height returns within what the skin lies at a distance from the middle, at a station.
func Height(t api.OffsetsTable, station, breadth int) (api.Span, api.Snag) {
	return within(t, true, station, breadth)
}

// Clash returns the fewest cells that contradict each other, if the table is not sound.
func Clash(t api.OffsetsTable) ([]int, api.Snag) {
	c, s := check(t)
	if s != api.Clear {
		return nil, s
	}
	return c.clash(), api.Clear
}

// Ask returns the cell that is to be measured again, and how many boats are left at most then.
func Ask(t api.OffsetsTable) (c api.OffsetsCell, left int, found bool, s api.Snag) {
	known, s := check(t)
	if s != api.Clear {
		return api.OffsetsCell{}, 0, false, s
	}
	sum := known.tally()
	if sum.boats == 0 {
		return api.OffsetsCell{}, 0, false, api.Foul
	}
	c, left, found = known.ask(sum)
	return c, left, found, api.Clear
}

// Read returns the table in which a cell's figure has all parts that can be read of it or of this one.
func Read(t api.OffsetsTable, c api.OffsetsCell, figure string) (api.OffsetsTable, api.Snag) {
	old, i, s := find(t, c)
	if s != api.Clear {
		return api.OffsetsTable{}, s
	}
	p, ok := readParts(figure)
	if !ok {
		return api.OffsetsTable{}, api.Form
	}
	merged, ok := old.cells[i].parts.merge(p)
	if !ok {
		return api.OffsetsTable{}, api.Foul
	}
	return old.put(c, merged.figure())
}

// Put returns the table in which a cell's figure is this one.
func Put(t api.OffsetsTable, c api.OffsetsCell, figure string) (api.OffsetsTable, api.Snag) {
	old, _, s := find(t, c)
	if s != api.Clear {
		return api.OffsetsTable{}, s
	}
	if _, ok := readParts(figure); !ok {
		return api.OffsetsTable{}, api.Form
	}
	return old.put(c, figure)
}

// Drop returns the table in which nothing was measured at a cell.
func Drop(t api.OffsetsTable, c api.OffsetsCell) (api.OffsetsTable, api.Snag) {
	old, _, s := find(t, c)
	if s != api.Clear {
		return api.OffsetsTable{}, s
	}
	return old.with(c, unmeasured), api.Clear
}

// Print writes a table.
func Print(t api.OffsetsTable) (string, api.Snag) {
	c, s := check(t)
	if s != api.Clear {
		return "", s
	}
	return c.text(), api.Clear
}

// Parse reads a table; line is the number of the first line that does not have its form.
func Parse(text string) (t api.OffsetsTable, line int, s api.Snag) {
	if len(text) > api.MaxText {
		return api.OffsetsTable{}, 0, api.Many
	}
	t, err := readTable(text)
	var bad badLine
	if errors.As(err, &bad) {
		return api.OffsetsTable{}, bad.number, api.Form
	}
	if s := CheckTable(t); s != api.Clear {
		return api.OffsetsTable{}, 0, s
	}
	return t, 0, api.Clear
}
