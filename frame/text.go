package frame

import (
	"strconv"

	"ribband/api"
	"ribband/terms"
)

// kind is a kind of lines; a text has them in this order.
type kind int

const (
	frameKind kind = iota
	pointKind
	tapeKind
	stickKind
)

const (
	frameWord = "frame"
	pointWord = "point"
	tapeWord  = "tape"
	stickWord = "stick"
	fitsWord  = "fits"
	notWord   = "not"
)

func kindOf(word string) (kind, bool) {
	switch word {
	case frameWord:
		return frameKind, true
	case pointWord:
		return pointKind, true
	case tapeWord:
		return tapeKind, true
	case stickWord:
		return stickKind, true
	}
	return 0, false
}

// fields returns how many fields a line has behind its word.
func (k kind) fields() int {
	many := 1
	switch k {
	case tapeKind, stickKind:
		many++
		fallthrough
	case pointKind:
		many++
	}
	return many
}

// textLine is a line of a text.
type textLine interface{ kind() kind }

type (
	frameLine struct{ plank int }
	pointLine struct{ point api.FramePoint }
	tapeLine  struct{ tape api.FrameTape }
	stickLine struct{ stick api.FrameStick }
)

func (frameLine) kind() kind { return frameKind }
func (pointLine) kind() kind { return pointKind }
func (tapeLine) kind() kind  { return tapeKind }
func (stickLine) kind() kind { return stickKind }

func (b book) text() string {
	lines := [][]string{terms.Words(frameWord, b.Plank)}
	for _, p := range b.Points {
		lines = append(lines, []string{pointWord, strconv.Itoa(p.Height), terms.SpanText(p.Breadth)})
	}
	for _, t := range b.Tapes {
		lines = append(lines, []string{tapeWord, strconv.Itoa(t.From), strconv.Itoa(t.To), terms.SpanText(t.Girth)})
	}
	for _, k := range b.Sticks {
		lines = append(lines, []string{stickWord, strconv.Itoa(k.Height), strconv.Itoa(k.Long), answerText(k.Fits)})
	}
	return terms.Text(lines)
}

func answerText(fits bool) string {
	if fits {
		return fitsWord
	}
	return notWord
}

// badLine is the first line that does not have its form, or is out of order.
type badLine struct{ number int }

func (b badLine) Error() string { return "line " + strconv.Itoa(b.number) + " has no form" }

func readText(text string) (api.FrameBook, error) {
	lines := terms.Lines(text)
	if len(lines) == 0 {
		return api.FrameBook{}, badLine{0}
	}
	var b api.FrameBook
	last := frameKind
	for i, s := range lines {
		l, ok := readLine(s)
		if !ok || (i == 0) != (l.kind() == frameKind) || l.kind() < last {
			return api.FrameBook{}, badLine{i + 1}
		}
		last = l.kind()
		switch x := l.(type) {
		case frameLine:
			b.Plank = x.plank
		case pointLine:
			b.Points = append(b.Points, x.point)
		case tapeLine:
			b.Tapes = append(b.Tapes, x.tape)
		case stickLine:
			b.Sticks = append(b.Sticks, x.stick)
		}
	}
	return b, nil
}

func readLine(s string) (textLine, bool) {
	words, ok := terms.Fields(s)
	if !ok {
		return nil, false
	}
	k, ok := kindOf(words[0])
	if !ok || len(words)-1 != k.fields() {
		return nil, false
	}
	f := fields{words: words}
	l := f.line(k)
	return l, !f.bad
}

// fields are the word of a line and its fields; bad once one that was read did not have its form.
type fields struct {
	words []string
	bad   bool
}

func (f *fields) line(k kind) textLine {
	switch k {
	case frameKind:
		return frameLine{f.number(1)}
	case pointKind:
		return pointLine{api.FramePoint{Height: f.number(1), Breadth: f.span(2)}}
	case tapeKind:
		return tapeLine{api.FrameTape{From: f.number(1), To: f.number(2), Girth: f.span(3)}}
	default:
		return stickLine{api.FrameStick{Height: f.number(1), Long: f.number(2), Fits: f.answer(3)}}
	}
}

func (f *fields) number(i int) int {
	n, ok := terms.Number(f.words[i])
	f.bad = f.bad || !ok
	return n
}

func (f *fields) span(i int) api.Span {
	x, ok := terms.Span(f.words[i])
	f.bad = f.bad || !ok
	return x
}

func (f *fields) answer(i int) bool {
	word := f.words[i]
	f.bad = f.bad || word != fitsWord && word != notWord
	return word == fitsWord
}
