package offsets

import (
	"slices"

	"ribband/api"
	"ribband/terms"
)

// kind is a kind of lines: waterlines, or buttocks.
type kind struct {
	butt  bool
	word  string
	lines func(t api.OffsetsTable) []api.OffsetsLine
}

// kinds are in the order of cells and of texts.
func kinds() [2]kind {
	return [2]kind{
		{false, "water", func(t api.OffsetsTable) []api.OffsetsLine { return t.Waters }},
		{true, "butt", func(t api.OffsetsTable) []api.OffsetsLine { return t.Butts }},
	}
}

// table is a table that was not checked yet.
type table struct{ api.OffsetsTable }

// cell is a cell, where its line lies, its parts, and the measures that these can be.
type cell struct {
	api.OffsetsCell
	at    int
	parts parts
	can   []int
}

// checked is a table without a snag, and its cells in order.
type checked struct {
	table
	cells   []cell
	index   map[api.OffsetsCell]int
	station [][]int // the indexes of the cells at each station
}

func check(t api.OffsetsTable) (checked, api.Snag) {
	c := checked{table: table{t}}
	if s := c.snag(); s != api.Clear {
		return checked{}, s
	}
	c.index = map[api.OffsetsCell]int{}
	c.station = make([][]int, len(t.Stations))
	for _, x := range c.measured() {
		x.can = x.parts.can()
		c.index[x.OffsetsCell] = len(c.cells)
		c.station[x.Station] = append(c.station[x.Station], len(c.cells))
		c.cells = append(c.cells, x)
	}
	return c, api.Clear
}

// find checks a table, and looks for a cell in it.
func find(t api.OffsetsTable, which api.OffsetsCell) (checked, int, api.Snag) {
	c, s := check(t)
	if s != api.Clear {
		return checked{}, 0, s
	}
	i, ok := c.index[which]
	if !ok {
		return checked{}, 0, api.Absent
	}
	return c, i, api.Clear
}

// measured returns the cells in order, without the measures that they can be; all figures are to have their form.
func (t table) measured() []cell {
	var list []cell
	for _, k := range kinds() {
		for i, line := range k.lines(t.OffsetsTable) {
			for station, figure := range line.Figures {
				if figure == unmeasured {
					continue
				}
				p, _ := readParts(figure)
				which := api.OffsetsCell{Butt: k.butt, Line: i, Station: station}
				list = append(list, cell{OffsetsCell: which, at: line.At, parts: p})
			}
		}
	}
	return list
}

// with returns a table, in memory of its own, in which a cell has another figure.
func (t table) with(which api.OffsetsCell, figure string) api.OffsetsTable {
	t.Stations = slices.Clone(t.Stations)
	t.Waters = cloneLines(t.Waters)
	t.Butts = cloneLines(t.Butts)
	for _, k := range kinds() {
		if k.butt == which.Butt {
			k.lines(t.OffsetsTable)[which.Line].Figures[which.Station] = figure
		}
	}
	return t.OffsetsTable
}

func cloneLines(lines []api.OffsetsLine) []api.OffsetsLine {
	lines = slices.Clone(lines)
	for i, line := range lines {
		lines[i].Figures = slices.Clone(line.Figures)
	}
	return lines
}

func (t table) snag() api.Snag {
	if t.Wrong < 0 || t.Wrong > api.MaxOffsetsWrong {
		return api.Range
	}
	if s := stationsSnag(t.Stations); s != api.Clear {
		return s
	}
	for _, k := range kinds() {
		if s := linesSnag(k.lines(t.OffsetsTable), len(t.Stations)); s != api.Clear {
			return s
		}
	}
	if t.smudges() > api.MaxOffsetsSmudged {
		return api.Many
	}
	return api.Clear
}

func stationsSnag(names []string) api.Snag {
	if len(names) < 1 || len(names) > api.MaxOffsetsStations {
		return api.Many
	}
	for i, name := range names {
		if !terms.IsName(name) {
			return api.Name
		}
		if slices.Contains(names[:i], name) {
			return api.Again
		}
	}
	return api.Clear
}

func linesSnag(lines []api.OffsetsLine, stations int) api.Snag {
	if len(lines) > api.MaxOffsetsLines {
		return api.Many
	}
	for i, line := range lines {
		switch {
		case !isMeasure(line.At):
			return api.Range
		case i > 0 && line.At <= lines[i-1].At:
			return api.Turned
		case len(line.Figures) != stations:
			return api.Many
		case slices.ContainsFunc(line.Figures, isNoFigure):
			return api.Form
		}
	}
	return api.Clear
}

func isNoFigure(figure string) bool {
	_, ok := readParts(figure)
	return !ok && figure != unmeasured
}

func (t table) smudges() int {
	n := 0
	for _, x := range t.measured() {
		n += x.parts.smudges()
	}
	return n
}
