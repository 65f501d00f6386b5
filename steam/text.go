package steam

import (
	"strconv"

	"ribband/api"
	"ribband/terms"
)

// The ranks of lines, in the order of a text.
const (
	steamRank = iota
	plankRank
	noteRank
)

const (
	steamWord = "steam"
	plankWord = "plank"
	noteWord  = "note"
)

// textLine is a line of a text.
type textLine interface{ Rank() int }

type (
	steamLine struct{ places, hands, tide int }
	plankLine struct{ plank api.SteamPlank }
	noteLine  struct{ note api.SteamNote }
)

func (steamLine) Rank() int { return steamRank }
func (plankLine) Rank() int { return plankRank }
func (noteLine) Rank() int  { return noteRank }

func (b book) text() string {
	lines := [][]string{terms.Words(steamWord, b.Places, b.Hands, b.Tide)}
	for _, p := range b.Planks {
		lines = append(lines, []string{plankWord, p.Name, terms.SpanText(p.Steam), strconv.Itoa(p.Hang), strconv.Itoa(p.Soft)})
	}
	for _, n := range b.Notes {
		lines = append(lines, []string{noteWord, terms.ListText(n.Planks, strconv.Itoa), terms.SpanText(n.Sum)})
	}
	return terms.Text(lines)
}

func readText(text string) api.SteamBook {
	var b api.SteamBook
	for _, l := range terms.Read(text, readLine) {
		switch x := l.(type) {
		case steamLine:
			b.Places, b.Hands, b.Tide = x.places, x.hands, x.tide
		case plankLine:
			b.Planks = append(b.Planks, x.plank)
		case noteLine:
			b.Notes = append(b.Notes, x.note)
		}
	}
	return b
}

func readLine(l terms.Line) textLine {
	return terms.Known(l, []terms.LineKind[textLine]{
		{Word: steamWord, Fields: 3, Read: readSteam},
		{Word: plankWord, Fields: 4, Read: readPlank},
		{Word: noteWord, Fields: 2, Read: readNote},
	})
}

func readSteam(l terms.Line) textLine { return steamLine{l.Number(1), l.Number(2), l.Number(3)} }

func readPlank(l terms.Line) textLine {
	return plankLine{api.SteamPlank{Name: l.Word(1), Steam: l.Span(2), Hang: l.Number(3), Soft: l.Number(4)}}
}

func readNote(l terms.Line) textLine {
	return noteLine{api.SteamNote{Planks: l.Numbers(1), Sum: l.Span(2)}}
}
