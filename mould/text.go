package mould

import (
	"strconv"

	"ribband/api"
	"ribband/terms"
)

// The kinds of lines, in the order of a text.
const (
	mouldRank = iota
	pieceRank
	boardRank
	tapeRank
)

const (
	mouldWord = "mould"
	pieceWord = "piece"
	boardWord = "board"
	tapeWord  = "tape"
)

// textLine is a line of a text.
type textLine interface{ Rank() int }

type (
	mouldLine struct{ saw int }
	pieceLine struct{ piece api.MouldPiece }
	boardLine struct{ board api.MouldBoard }
	tapeLine  struct{ tape api.MouldTape }
)

func (mouldLine) Rank() int { return mouldRank }
func (pieceLine) Rank() int { return pieceRank }
func (boardLine) Rank() int { return boardRank }
func (tapeLine) Rank() int  { return tapeRank }

func (b book) text() string {
	lines := [][]string{terms.Words(mouldWord, b.Saw)}
	for _, p := range b.Pieces {
		lines = append(lines, []string{pieceWord, p.Name, terms.SpanText(p.Length), strconv.Itoa(p.Bears)})
	}
	for _, w := range b.Boards {
		lines = append(lines, []string{boardWord, w.Name, strconv.Itoa(w.Long), terms.ListText(w.Knots, terms.SpanText)})
	}
	for _, t := range b.Tapes {
		lines = append(lines, []string{tapeWord, terms.ListText(t.Pieces, strconv.Itoa), terms.SpanText(t.Sum)})
	}
	return terms.Text(lines)
}

func readText(text string) api.MouldBook {
	var b api.MouldBook
	for _, l := range terms.Read(text, readLine) {
		switch x := l.(type) {
		case mouldLine:
			b.Saw = x.saw
		case pieceLine:
			b.Pieces = append(b.Pieces, x.piece)
		case boardLine:
			b.Boards = append(b.Boards, x.board)
		case tapeLine:
			b.Tapes = append(b.Tapes, x.tape)
		}
	}
	return b
}

func readLine(l terms.Line) textLine {
	switch {
	case l.Is(mouldWord, 1):
		return mouldLine{l.Number(1)}
	case l.Is(pieceWord, 3):
		return pieceLine{api.MouldPiece{Name: l.Word(1), Length: l.Span(2), Bears: l.Number(3)}}
	case l.Is(boardWord, 3):
		return boardLine{api.MouldBoard{Name: l.Word(1), Long: l.Number(2), Knots: l.Spans(3)}}
	case l.Is(tapeWord, 2):
		return tapeLine{api.MouldTape{Pieces: l.Numbers(1), Sum: l.Span(2)}}
	}
	panic(l.Bad())
}
