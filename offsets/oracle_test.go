package offsets_test

import (
	"fmt"
	"math/bits"
	"math/rand"
	"slices"
	"strings"
	"testing"

	"ribband/api"
	"ribband/offsets"
)

// The examples of the chapter.
const (
	body  = "station a\nstation b\nwater 0-8-0 1-2-3,1-?-0\nwater 1-4-0 1-6-0,1-4-4\nbutt 1-0-0 0-5-0,0-9-0\n"
	textA = "offsets 1\n" + body
	textN = "offsets 0\n" + body
)

var (
	textC  = strings.Replace(textN, "1-?-0", "1-2-0", 1)
	waterB = api.OffsetsCell{Station: 1}
	buttB  = api.OffsetsCell{Butt: true, Station: 1}
)

func parse(t *testing.T, text string) api.OffsetsTable {
	t.Helper()
	b, line, s := offsets.Parse(text)
	if s != api.Clear {
		t.Fatal(text, line, s)
	}
	return b
}

func printed(t *testing.T, b api.OffsetsTable) string {
	t.Helper()
	text, s := offsets.Print(b)
	if s != api.Clear {
		t.Fatal(b, s)
	}
	return text
}

// trueCell is a cell as the oracle reads it.
type trueCell struct {
	api.OffsetsCell
	at  int
	can []int
}

// trueBoat is a boat as the oracle finds it: which cells are wrong (bits), and what the others are (-1 for wrong ones).
type trueBoat struct {
	wrong uint
	is    [12]int
}

// oracle finds everything about a table by going through all that could be.
type oracle struct {
	table   api.OffsetsTable
	cells   []trueCell
	choices [][12]int // a measure for each cell
	clashes [][]uint  // of each choice, the pairs of cells that contradict each other
	boats   []trueBoat
}

func figureOf(n int) string { return fmt.Sprintf("%d-%d-%d", n/96, n/8%12, n%8) }

func matches(figure string, n int) bool {
	whole := strings.Split(figureOf(n), "-")
	for i, part := range strings.Split(figure, "-") {
		if part != "?" && part != whole[i] {
			return false
		}
	}
	return true
}

func newOracle(b api.OffsetsTable) *oracle {
	o := &oracle{table: b}
	for kind, lines := range [][]api.OffsetsLine{b.Waters, b.Butts} {
		for l, line := range lines {
			for s, figure := range line.Figures {
				if figure == "-" {
					continue
				}
				c := trueCell{OffsetsCell: api.OffsetsCell{Butt: kind == 1, Line: l, Station: s}, at: line.At}
				for n := 0; n <= api.MaxOffsetsMeasure; n++ {
					if matches(figure, n) {
						c.can = append(c.can, n)
					}
				}
				o.cells = append(o.cells, c)
			}
		}
	}
	o.choices = [][12]int{{}}
	for i, c := range o.cells {
		var next [][12]int
		for _, choice := range o.choices {
			for _, n := range c.can {
				choice[i] = n
				next = append(next, choice)
			}
		}
		o.choices = next
	}
	for _, choice := range o.choices {
		o.clashes = append(o.clashes, o.clashesOf(choice))
	}
	o.findBoats()
	return o
}

func (o *oracle) clashesOf(choice [12]int) (pairs []uint) {
	for i, x := range o.cells {
		for j, y := range o.cells {
			if x.Station != y.Station {
				continue
			}
			m, n := choice[i], choice[j]
			bad := x.Butt == y.Butt && x.Line < y.Line && m > n
			if !x.Butt && y.Butt { // x is as far out as m, at the height x.at; y is as high as n, at the distance y.at
				bad = n < x.at && m < y.at || n > x.at && m > y.at
			}
			if bad {
				pairs = append(pairs, 1<<i|1<<j)
			}
		}
	}
	return pairs
}

func (o *oracle) good(choice int, right uint) bool {
	for _, pair := range o.clashes[choice] {
		if pair&^right == 0 {
			return false
		}
	}
	return true
}

func (o *oracle) findBoats() {
	seen := map[trueBoat]bool{}
	all := uint(1)<<len(o.cells) - 1
	for wrong := uint(0); wrong <= all; wrong++ {
		if bits.OnesCount(wrong) > o.table.Wrong {
			continue
		}
		for k, choice := range o.choices {
			if !o.good(k, all&^wrong) {
				continue
			}
			for i := range o.cells {
				if wrong>>i&1 == 1 {
					choice[i] = -1
				}
			}
			b := trueBoat{wrong, choice}
			if !seen[b] {
				seen[b] = true
				o.boats = append(o.boats, b)
			}
		}
	}
}

func (o *oracle) possible(right uint) bool {
	for k := range o.choices {
		if o.good(k, right) {
			return true
		}
	}
	return false
}

// best returns the shortest list of cells, and the least one of these, that fits.
func (o *oracle) best(fits func(list uint) bool) []int {
	var best []int
	found := false
	for list := uint(0); list < 1<<len(o.cells); list++ {
		if found && bits.OnesCount(list) > len(best) || !fits(list) {
			continue
		}
		var l []int
		for i := range o.cells {
			if list>>i&1 == 1 {
				l = append(l, i)
			}
		}
		if !found || len(l) < len(best) || slices.Compare(l, best) < 0 {
			best, found = l, true
		}
	}
	return best
}

func (o *oracle) sound() bool { return o.possible(1<<len(o.cells) - 1) }

func (o *oracle) fewest() []int {
	all := uint(1)<<len(o.cells) - 1
	return o.best(func(wrong uint) bool { return o.possible(all &^ wrong) })
}

func (o *oracle) clash() []int {
	if o.sound() {
		return nil
	}
	return o.best(func(list uint) bool { return !o.possible(list) })
}

func (o *oracle) can(i int) []int {
	var list []int
	for _, b := range o.boats {
		if b.is[i] >= 0 {
			list = append(list, b.is[i])
		}
	}
	slices.Sort(list)
	return slices.Compact(list)
}

func (o *oracle) wrong(i int) api.Sure {
	n := 0
	for _, b := range o.boats {
		n += int(b.wrong >> i & 1)
	}
	if n == 0 {
		return api.No
	}
	if n == len(o.boats) {
		return api.Yes
	}
	return api.Open
}

func (o *oracle) ask() (api.OffsetsCell, int, bool) {
	var which api.OffsetsCell
	left, found := len(o.boats), false
	for i, c := range o.cells {
		worst := 0
		for _, n := range o.can(i) {
			many := 0
			for _, b := range o.boats {
				if b.is[i] == n {
					many++
				}
			}
			worst = max(worst, many)
		}
		if worst > 0 && worst < left {
			which, left, found = c.OffsetsCell, worst, true
		}
	}
	return which, left, found
}

// breadthOf is within what the skin of a boat lies at a height.
func (o *oracle) breadthOf(b trueBoat, station, height int) api.Span {
	span := api.Span{Low: 0, High: api.MaxOffsetsMeasure}
	for i, c := range o.cells {
		n := b.is[i]
		if c.Station != station || n < 0 {
			continue
		}
		if !c.Butt && c.at <= height {
			span.Low = max(span.Low, n)
		}
		if !c.Butt && c.at >= height {
			span.High = min(span.High, n)
		}
		if c.Butt && n < height {
			span.Low = max(span.Low, c.at)
		}
		if c.Butt && n > height {
			span.High = min(span.High, c.at)
		}
	}
	return span
}

// heightOf is within what the skin of a boat lies at a distance from the middle.
func (o *oracle) heightOf(b trueBoat, station, breadth int) api.Span {
	span := api.Span{Low: 0, High: api.MaxOffsetsMeasure}
	for i, c := range o.cells {
		n := b.is[i]
		if c.Station != station || n < 0 {
			continue
		}
		if c.Butt && c.at <= breadth {
			span.Low = max(span.Low, n)
		}
		if c.Butt && c.at >= breadth {
			span.High = min(span.High, n)
		}
		if !c.Butt && n < breadth {
			span.Low = max(span.Low, c.at)
		}
		if !c.Butt && n > breadth {
			span.High = min(span.High, c.at)
		}
	}
	return span
}

func (o *oracle) within(of func(b trueBoat, station, at int) api.Span, station, at int) api.Span {
	all := api.Span{Low: api.MaxOffsetsMeasure, High: 0}
	for _, b := range o.boats {
		one := of(b, station, at)
		all.Low, all.High = min(all.Low, one.Low), max(all.High, one.High)
	}
	return all
}

// smudge replaces one part of a figure.
func smudge(r *rand.Rand, figure string) string {
	parts := strings.Split(figure, "-")
	parts[r.Intn(3)] = "?"
	return strings.Join(parts, "-")
}

// randomLines are lines of stations, of figures that lie close to the places of lines, so that many touch them.
func randomLines(r *rand.Rand, stations int) []api.OffsetsLine {
	var lines []api.OffsetsLine
	at := r.Intn(3) * 32
	for range r.Intn(api.MaxOffsetsLines + 1) {
		line := api.OffsetsLine{At: at}
		for range stations {
			figure := figureOf(at/2 + r.Intn(9)*16)
			if r.Intn(8) == 0 {
				figure = "-"
			}
			line.Figures = append(line.Figures, figure)
		}
		lines = append(lines, line)
		at += 32 + r.Intn(3)*32
	}
	return lines
}

func randomTable(r *rand.Rand) api.OffsetsTable {
	b := api.OffsetsTable{Wrong: r.Intn(api.MaxOffsetsWrong + 1)}
	b.Stations = []string{"a", "b2", "c"}[:1+r.Intn(3)]
	b.Waters = randomLines(r, len(b.Stations))
	b.Butts = randomLines(r, len(b.Stations))
	for range r.Intn(api.MaxOffsetsSmudged + 1) {
		lines := b.Waters
		if r.Intn(2) == 0 {
			lines = b.Butts
		}
		if len(lines) == 0 {
			continue
		}
		line, s := lines[r.Intn(len(lines))], r.Intn(len(b.Stations))
		if line.Figures[s] != "-" {
			line.Figures[s] = smudge(r, line.Figures[s])
		}
	}
	return b
}

// eachTable runs a test on the examples of the chapter, and on tables that are the same in each run.
func eachTable(t *testing.T, many int, test func(t *testing.T, b api.OffsetsTable)) {
	t.Helper()
	for _, text := range []string{textA, textN, textC} {
		test(t, parse(t, text))
	}
	r := rand.New(rand.NewSource(int64(many)))
	for range many {
		b := randomTable(r)
		if s := offsets.CheckTable(b); s != api.Clear {
			t.Fatal(b, s)
		}
		test(t, b)
		if t.Failed() {
			t.Fatal(b)
		}
	}
}
