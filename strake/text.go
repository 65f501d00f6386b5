package strake

import (
	"strconv"

	"ribband/api"
	"ribband/terms"
)

// kind is a kind of lines; a text has them in this order.
type kind int

const (
	strakeKind kind = iota
	girthKind
	markKind
)

const (
	strakeWord = "strake"
	girthWord  = "girth"
	markWord   = "mark"
)

func kindOf(l terms.Line) kind {
	switch {
	case l.Is(strakeWord, 5):
		return strakeKind
	case l.Is(girthWord, 1):
		return girthKind
	case l.Is(markWord, 3):
		return markKind
	}
	panic(l.Bad())
}

// textLine is a line of a text.
type textLine interface{ Rank() int }

type (
	strakeLine struct{ strakes, least, most, taper, bend int }
	girthLine  struct{ girth api.Span }
	markLine   struct{ mark api.StrakeMark }
)

func (strakeLine) Rank() int { return int(strakeKind) }
func (girthLine) Rank() int  { return int(girthKind) }
func (markLine) Rank() int   { return int(markKind) }

func (b book) text() string {
	lines := [][]string{terms.Words(strakeWord, b.Strakes, b.Least, b.Most, b.Taper, b.Bend)}
	for _, x := range b.Girths {
		lines = append(lines, []string{girthWord, terms.SpanText(x)})
	}
	for _, m := range b.Marks {
		lines = append(lines, []string{markWord, strconv.Itoa(m.Frame), strconv.Itoa(m.Strake), terms.SpanText(m.Width)})
	}
	return terms.Text(lines)
}

func readText(text string) api.StrakeBook {
	var b api.StrakeBook
	for _, l := range terms.Read(text, readLine) {
		switch x := l.(type) {
		case strakeLine:
			b.Strakes, b.Least, b.Most, b.Taper, b.Bend = x.strakes, x.least, x.most, x.taper, x.bend
		case girthLine:
			b.Girths = append(b.Girths, x.girth)
		case markLine:
			b.Marks = append(b.Marks, x.mark)
		}
	}
	return b
}

func readLine(l terms.Line) textLine {
	switch kindOf(l) {
	case strakeKind:
		return strakeLine{l.Number(1), l.Number(2), l.Number(3), l.Number(4), l.Number(5)}
	case girthKind:
		return girthLine{l.Span(1)}
	default:
		return markLine{api.StrakeMark{Frame: l.Number(1), Strake: l.Number(2), Width: l.Span(3)}}
	}
}
