package butt

import (
	"strconv"

	"ribband/api"
	"ribband/terms"
)

// The ranks of lines, in the order of a text.
const (
	buttRank = iota
	kindRank
	noteRank
)

const (
	buttWord = "butt"
	kindWord = "kind"
	noteWord = "note"
)

// textLine is a line of a text.
type textLine interface{ Rank() int }

type (
	buttLine struct{ frames, strakes, gap, between, least int }
	kindLine struct{ kind api.ButtKind }
	noteLine struct{ note api.ButtNote }
)

func (buttLine) Rank() int { return buttRank }
func (kindLine) Rank() int { return kindRank }
func (noteLine) Rank() int { return noteRank }

func (b book) text() string {
	lines := [][]string{terms.Words(buttWord, b.Frames, b.Strakes, b.Gap, b.Between, b.Least)}
	for _, k := range b.Kinds {
		lines = append(lines, []string{kindWord, strconv.Itoa(k.Long), strconv.Itoa(k.Cost), terms.SpanText(k.Many)})
	}
	for _, n := range b.Notes {
		lines = append(lines, []string{noteWord, terms.ListText(n.Kinds, strconv.Itoa), terms.SpanText(n.Sum)})
	}
	return terms.Text(lines)
}

func readText(text string) api.ButtBook {
	var b api.ButtBook
	for _, l := range terms.Read(text, readLine) {
		switch x := l.(type) {
		case buttLine:
			b.Frames, b.Strakes, b.Gap, b.Between, b.Least = x.frames, x.strakes, x.gap, x.between, x.least
		case kindLine:
			b.Kinds = append(b.Kinds, x.kind)
		case noteLine:
			b.Notes = append(b.Notes, x.note)
		}
	}
	return b
}

func readLine(l terms.Line) textLine {
	return terms.Known(l, []terms.LineKind[textLine]{
		{Word: buttWord, Fields: 5, Read: readButt},
		{Word: kindWord, Fields: 3, Read: readKind},
		{Word: noteWord, Fields: 2, Read: readNote},
	})
}

func readButt(l terms.Line) textLine {
	return buttLine{l.Number(1), l.Number(2), l.Number(3), l.Number(4), l.Number(5)}
}

func readKind(l terms.Line) textLine {
	return kindLine{api.ButtKind{Long: l.Number(1), Cost: l.Number(2), Many: l.Span(3)}}
}

func readNote(l terms.Line) textLine {
	return noteLine{api.ButtNote{Kinds: l.Numbers(1), Sum: l.Span(2)}}
}
