package offsets

import (
	"strconv"
	"strings"

	"ribband/api"
	"ribband/terms"
)

// textLine is a line of a text; its rank tells which lines it can be behind.
type textLine interface{ rank() int }

type (
	headLine    struct{ wrong int }
	stationLine struct{ name string }
	figuresLine struct {
		butt bool
		line api.OffsetsLine
	}
)

const headRank = 0

func (headLine) rank() int    { return headRank }
func (stationLine) rank() int { return 1 }
func (l figuresLine) rank() int {
	if l.butt {
		return 3
	}
	return 2
}

// badLine is the first line that does not have its form, or is out of order.
type badLine struct{ number int }

func (b badLine) Error() string { return "line " + strconv.Itoa(b.number) + " has no form" }

func (t table) text() string {
	lines := []string{"offsets " + strconv.Itoa(t.Wrong)}
	for _, name := range t.Stations {
		lines = append(lines, "station "+name)
	}
	for _, k := range kinds() {
		for _, line := range k.lines(t.OffsetsTable) {
			at := partsOf(line.At).figure()
			lines = append(lines, k.word+" "+at+" "+strings.Join(line.Figures, ","))
		}
	}
	return strings.Join(lines, "\n") + "\n"
}

func readTable(text string) (api.OffsetsTable, error) {
	lines := terms.Lines(text)
	if len(lines) == 0 {
		return api.OffsetsTable{}, badLine{0}
	}
	var t api.OffsetsTable
	last := headRank
	for i, s := range lines {
		line, ok := readLine(s)
		if !ok || (i == 0) != (line.rank() == headRank) || line.rank() < last {
			return api.OffsetsTable{}, badLine{i + 1}
		}
		last = line.rank()
		switch x := line.(type) {
		case headLine:
			t.Wrong = x.wrong
		case stationLine:
			t.Stations = append(t.Stations, x.name)
		case figuresLine:
			if x.butt {
				t.Butts = append(t.Butts, x.line)
			} else {
				t.Waters = append(t.Waters, x.line)
			}
		}
	}
	return t, nil
}

func readLine(s string) (textLine, bool) {
	fields, ok := terms.Fields(s)
	if !ok {
		return nil, false
	}
	switch {
	case fields[0] == "offsets" && len(fields) == 2:
		n, ok := terms.Number(fields[1])
		return headLine{n}, ok
	case fields[0] == "station" && len(fields) == 2:
		return stationLine{fields[1]}, true
	case len(fields) == 3:
		return readFigures(fields[0], fields[1], fields[2])
	}
	return nil, false
}

func readFigures(word, at, figures string) (textLine, bool) {
	p, ok := readParts(at)
	if !ok || p.smudges() > 0 {
		return nil, false
	}
	line := api.OffsetsLine{At: p.measure(), Figures: strings.Split(figures, ",")}
	for _, k := range kinds() {
		if k.word == word {
			return figuresLine{k.butt, line}, true
		}
	}
	return nil, false
}
