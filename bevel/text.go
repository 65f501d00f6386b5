package bevel

import (
	"strconv"

	"ribband/api"
	"ribband/terms"
)

// kind is a kind of lines; a text has them in this order.
type kind int

const (
	bevelKind kind = iota
	offsetKind
	readingKind
)

const (
	bevelWord   = "bevel"
	offsetWord  = "offset"
	readingWord = "reading"
)

// form returns the word of a line, and how many fields are behind it.
func (k kind) form() (word string, fields int) {
	switch k {
	case bevelKind:
		return bevelWord, 5
	case offsetKind:
		return offsetWord, 1
	default:
		return readingWord, 2
	}
}

// read reads a line that has the word and as many fields as its kind has.
func (k kind) read(l terms.Line) textLine {
	switch k {
	case bevelKind:
		return bevelLine{l.Number(1), l.Number(2), l.Number(3), l.Number(4), l.Number(5)}
	case offsetKind:
		return offsetLine{l.Span(1)}
	default:
		return readingLine{api.BevelReading{Frame: l.Number(1), Bevel: l.Span(2)}}
	}
}

// textLine is a line of a text.
type textLine interface{ Rank() int }

type (
	bevelLine   struct{ run, scale, follow, bite, wrong int }
	offsetLine  struct{ offset api.Span }
	readingLine struct{ reading api.BevelReading }
)

func (bevelLine) Rank() int   { return int(bevelKind) }
func (offsetLine) Rank() int  { return int(offsetKind) }
func (readingLine) Rank() int { return int(readingKind) }

func (b book) text() string {
	lines := [][]string{terms.Words(bevelWord, b.Run, b.Scale, b.Follow, b.Bite, b.Wrong)}
	for _, x := range b.Offsets {
		lines = append(lines, []string{offsetWord, terms.SpanText(x)})
	}
	for _, r := range b.Readings {
		lines = append(lines, []string{readingWord, strconv.Itoa(r.Frame), terms.SpanText(r.Bevel)})
	}
	return terms.Text(lines)
}

func readText(text string) api.BevelBook {
	var b api.BevelBook
	for _, l := range terms.Read(text, readLine) {
		switch x := l.(type) {
		case bevelLine:
			b.Run, b.Scale, b.Follow, b.Bite, b.Wrong = x.run, x.scale, x.follow, x.bite, x.wrong
		case offsetLine:
			b.Offsets = append(b.Offsets, x.offset)
		case readingLine:
			b.Readings = append(b.Readings, x.reading)
		}
	}
	return b
}

func readLine(l terms.Line) textLine {
	for k := range readingKind + 1 {
		if l.Is(k.form()) {
			return k.read(l)
		}
	}
	panic(l.Bad())
}
