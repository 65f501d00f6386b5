package terms

import (
	"errors"
	"strconv"

	"ribband/api"
)

// BadLine is the error of a text, with which its reading panics: the number of the first line that does not have its form, or is out of order.
type BadLine int

func (b BadLine) Error() string { return "line " + strconv.Itoa(int(b)) + " has no form" }

// Try reads a text, unless one of its lines is wrong.
func Try[T any](text string, read func(text string) T) (x T, err error) {
	defer func() {
		if bad, wrong := recover().(BadLine); wrong {
			err = bad
		}
	}()
	return read(text), nil
}

// Parse reads the text of a book, unless it is too long, one of its lines is wrong (then line is its number), or the book has a snag.
func Parse[B any](text string, read func(text string) B, check func(B) api.Snag) (b B, line int, s api.Snag) {
	var none B
	if len(text) > api.MaxText {
		return none, 0, api.Many
	}
	b, err := Try(text, read)
	var bad BadLine
	if errors.As(err, &bad) {
		return none, int(bad), api.Form
	}
	if s := check(b); s != api.Clear {
		return none, 0, s
	}
	return b, 0, api.Clear
}

// Ranked is a line that was read. Its rank tells what it can be behind: the first line, and no other one, has the rank 0, and no line is behind one of a greater rank.
type Ranked interface{ Rank() int }

// Read reads the lines of a text. It panics with the first one that is wrong.
func Read[L Ranked](text string, read func(Line) L) []L {
	var list []L
	last := 0
	for i, s := range Lines(text) {
		x := LineOf(i+1, s)
		l := read(x)
		if (i == 0) != (l.Rank() == 0) || l.Rank() < last {
			panic(x.Bad())
		}
		last = l.Rank()
		list = append(list, l)
	}
	if len(list) == 0 {
		panic(BadLine(0))
	}
	return list
}

// Line is a line whose fields are read one by one: its number, its word (the field 0) and its fields. A field that does not have its form is a panic with the number.
type Line struct {
	number BadLine
	words  []string
}

// LineOf returns the line with a number. It panics with the number if the word or a field of the line is empty.
func LineOf(number int, s string) Line {
	words, ok := Fields(s)
	if !ok {
		panic(BadLine(number))
	}
	return Line{BadLine(number), words}
}

// Is tells whether a line has this word, and so many fields behind it.
func (l Line) Is(word string, fields int) bool {
	return l.words[0] == word && len(l.words)-1 == fields
}

// Bad returns what is panicked with if the line does not have its form.
func (l Line) Bad() BadLine { return l.number }

// Word returns a field, whatever it is.
func (l Line) Word(i int) string { return l.words[i] }

// Number reads a field that is a number.
func (l Line) Number(i int) int { return field(l, i, Number) }

// Span reads a field that is a span.
func (l Line) Span(i int) api.Span { return field(l, i, Span) }

// Numbers reads a field that is a list of numbers.
func (l Line) Numbers(i int) []int { return fieldList(l, i, Number) }

// Spans reads a field that is a list of spans.
func (l Line) Spans(i int) []api.Span { return fieldList(l, i, Span) }

// LineKind is a kind of lines: its word, how many fields are behind it, and how they are read.
type LineKind[L any] struct {
	Word   string
	Fields int
	Read   func(Line) L
}

// Known reads a line that is of one of some kinds. Any other line is a panic with its number.
func Known[L any](l Line, kinds []LineKind[L]) L {
	for _, k := range kinds {
		if l.Is(k.Word, k.Fields) {
			return k.Read(l)
		}
	}
	panic(l.Bad())
}

func field[T any](l Line, i int, read func(string) (T, bool)) T {
	x, ok := read(l.words[i])
	if !ok {
		panic(l.number)
	}
	return x
}

func fieldList[T any](l Line, i int, read func(string) (T, bool)) []T {
	list, ok := List(l.words[i], read)
	if !ok {
		panic(l.number)
	}
	return list
}
