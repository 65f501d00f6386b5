package spile

import (
	"strconv"

	"ribband/api"
	"ribband/terms"
)

// kind is a kind of lines; a text has them in this order.
type kind int

const (
	spileKind kind = iota
	pointKind
	checkKind
)

const (
	spileWord = "spile"
	pointWord = "point"
	checkWord = "check"
)

// fields returns how many fields a line has behind its word.
func (k kind) fields() int {
	many := 0
	switch k {
	case pointKind:
		many++ // a width, which is behind two spans
		fallthrough
	case spileKind, checkKind:
		many += 2
	}
	return many
}

func kindOf(l terms.Line) kind {
	for k, word := range [...]string{spileKind: spileWord, pointKind: pointWord, checkKind: checkWord} {
		if l.Is(word, kind(k).fields()) {
			return kind(k)
		}
	}
	panic(l.Bad())
}

// textLine is a line of a text.
type textLine interface{ Rank() int }

type (
	spileLine struct{ opening, slip int }
	pointLine struct{ point api.SpilePoint }
	checkLine struct{ check api.SpileCheck }
)

func (spileLine) Rank() int { return int(spileKind) }
func (pointLine) Rank() int { return int(pointKind) }
func (checkLine) Rank() int { return int(checkKind) }

func (b book) text() string {
	lines := [][]string{terms.Words(spileWord, b.Opening, b.Slip)}
	for _, p := range b.Points {
		lines = append(lines, []string{pointWord, terms.SpanText(p.Mark), terms.SpanText(p.Board), strconv.Itoa(p.Width)})
	}
	for _, c := range b.Checks {
		lines = append(lines, []string{checkWord, strconv.Itoa(c.Point), terms.SpanText(c.Gap)})
	}
	return terms.Text(lines)
}

func readText(text string) api.SpileBook {
	var b api.SpileBook
	for _, l := range terms.Read(text, readLine) {
		switch x := l.(type) {
		case spileLine:
			b.Opening, b.Slip = x.opening, x.slip
		case pointLine:
			b.Points = append(b.Points, x.point)
		case checkLine:
			b.Checks = append(b.Checks, x.check)
		}
	}
	return b
}

func readLine(l terms.Line) textLine {
	switch kindOf(l) {
	case spileKind:
		return spileLine{l.Number(1), l.Number(2)}
	case pointKind:
		return pointLine{api.SpilePoint{Mark: l.Span(1), Board: l.Span(2), Width: l.Number(3)}}
	default:
		return checkLine{api.SpileCheck{Point: l.Number(1), Gap: l.Span(2)}}
	}
}
