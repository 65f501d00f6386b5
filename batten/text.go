package batten

import (
	"strconv"

	"ribband/api"
	"ribband/terms"
)

// The kinds of lines, in the order of a text.
const (
	battenRank = iota
	markRank
	ruleRank
)

const (
	battenWord = "batten"
	markWord   = "mark"
	ruleWord   = "rule"
)

// textLine is a line of a text.
type textLine interface{ Rank() int }

type (
	battenLine struct{ bend, twist, turns int }
	markLine   struct{ heights api.Span }
	ruleLine   struct{ rule api.BattenRule }
)

func (battenLine) Rank() int { return battenRank }
func (markLine) Rank() int   { return markRank }
func (ruleLine) Rank() int   { return ruleRank }

func (b book) text() string {
	lines := [][]string{terms.Words(battenWord, b.Bend, b.Twist, b.Turns)}
	for _, mark := range b.Marks {
		lines = append(lines, []string{markWord, terms.SpanText(mark)})
	}
	for _, r := range b.Rules {
		lines = append(lines, []string{ruleWord, strconv.Itoa(r.A), strconv.Itoa(r.B), terms.SpanText(r.Rise)})
	}
	return terms.Text(lines)
}

func readText(text string) api.BattenBook {
	var b api.BattenBook
	for _, l := range terms.Read(text, readLine) {
		switch x := l.(type) {
		case battenLine:
			b.Bend, b.Twist, b.Turns = x.bend, x.twist, x.turns
		case markLine:
			b.Marks = append(b.Marks, x.heights)
		case ruleLine:
			b.Rules = append(b.Rules, x.rule)
		}
	}
	return b
}

func readLine(l terms.Line) textLine {
	switch {
	case l.Is(battenWord, 3):
		return battenLine{l.Number(1), l.Number(2), l.Number(3)}
	case l.Is(markWord, 1):
		return markLine{l.Span(1)}
	case l.Is(ruleWord, 3):
		return ruleLine{api.BattenRule{A: l.Number(1), B: l.Number(2), Rise: l.Span(3)}}
	}
	panic(l.Bad())
}
