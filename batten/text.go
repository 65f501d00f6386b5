package batten

import (
	"strconv"

	"ribband/api"
	"ribband/terms"
)

// kind is a kind of lines; a text has them in this order.
type kind int

const (
	battenKind kind = iota
	markKind
	ruleKind
)

const (
	battenWord = "batten"
	markWord   = "mark"
	ruleWord   = "rule"
)

// textLine is a line of a text.
type textLine interface{ kind() kind }

type (
	battenLine struct{ bend, twist, turns int }
	markLine   struct{ heights api.Span }
	ruleLine   struct{ rule api.BattenRule }
)

func (battenLine) kind() kind { return battenKind }
func (markLine) kind() kind   { return markKind }
func (ruleLine) kind() kind   { return ruleKind }

func (b book) text() string {
	lines := [][]string{{battenWord, strconv.Itoa(b.Bend), strconv.Itoa(b.Twist), strconv.Itoa(b.Turns)}}
	for _, mark := range b.Marks {
		lines = append(lines, []string{markWord, terms.SpanText(mark)})
	}
	for _, r := range b.Rules {
		lines = append(lines, []string{ruleWord, strconv.Itoa(r.A), strconv.Itoa(r.B), terms.SpanText(r.Rise)})
	}
	return terms.Text(lines)
}

// badLine is what the reading of a text panics with: the number of the first line that does not have its form, or is out of order.
type badLine int

// tryText reads a text, unless one of its lines is wrong.
func tryText(text string) (b api.BattenBook, bad badLine, ok bool) {
	defer func() {
		if number, wrong := recover().(badLine); wrong {
			b, bad, ok = api.BattenBook{}, number, false
		}
	}()
	return readText(text), 0, true
}

func readText(text string) api.BattenBook {
	lines := terms.Lines(text)
	if len(lines) == 0 {
		panic(badLine(0))
	}
	var b api.BattenBook
	last := battenKind
	for i, s := range lines {
		l := readLine(badLine(i+1), s)
		if (i == 0) != (l.kind() == battenKind) || l.kind() < last {
			panic(badLine(i + 1))
		}
		last = l.kind()
		switch x := l.(type) {
		case battenLine:
			b.Bend, b.Twist, b.Turns = x.bend, x.twist, x.turns
		case markLine:
			b.Marks = append(b.Marks, x.heights)
		case ruleLine:
			b.Rules = append(b.Rules, x.rule)
		}
	}
	return b
}

// fields are the word of a line and its fields.
type fields struct {
	line  badLine
	words []string
}

func readLine(number badLine, s string) textLine {
	words, ok := terms.Fields(s)
	if !ok {
		panic(number)
	}
	f := fields{number, words}
	switch f.kind() {
	case battenKind:
		return battenLine{f.number(1), f.number(2), f.number(3)}
	case markKind:
		return markLine{f.span(1)}
	default:
		return ruleLine{api.BattenRule{A: f.number(1), B: f.number(2), Rise: f.span(3)}}
	}
}

// kind tells the kind of a line that has as many fields as one of that kind.
func (f fields) kind() kind {
	word, many := f.words[0], len(f.words)-1
	switch {
	case word == battenWord && many == 3:
		return battenKind
	case word == markWord && many == 1:
		return markKind
	case word == ruleWord && many == 3:
		return ruleKind
	}
	panic(f.line)
}

func (f fields) number(i int) int {
	n, ok := terms.Number(f.words[i])
	if !ok {
		panic(f.line)
	}
	return n
}

func (f fields) span(i int) api.Span {
	x, ok := terms.Span(f.words[i])
	if !ok {
		panic(f.line)
	}
	return x
}
