package yard

import (
	"slices"
	"strings"

	"ribband/api"
	"ribband/terms"
)

const (
	entryWord = "entry"
	noString  = "-"

	entryFields = 7 // behind its word

	mostNumber = 999999999 // that a field can be
)

// kind is a kind of entries: its word, the fields that it uses, the part on which it is done, and how.
type kind struct {
	word string
	uses string
	part int
	do   func(checked, api.YardEntry) (checked, api.Snag)
}

// kinds are all kinds of entries, by their numbers. A strike is on no part: what it does is up to a journal.
func kinds() []kind {
	return []kind{
		api.YardStrike: {"strike", "A", -1, checked.strike},
		api.YardFigure: {"figure", "ABCS", offsetsPart, checked.figure},
		api.YardHeight: {"height", "AM", battenPart, checked.height},
		api.YardTape:   {"tape", "ABM", framePart, checked.tape},
		api.YardStick:  {"stick", "ABC", framePart, checked.stick},
		api.YardLength: {"length", "AM", mouldPart, checked.length},
		api.YardLose:   {"lose", "A", mouldPart, checked.lose},
		api.YardMark:   {"mark", "ABM", strakePart, checked.mark},
		api.YardRotten: {"rotten", "A", buttPart, checked.rotten},
		api.YardCheck:  {"check", "AM", spilePart, checked.check},
		api.YardBevel:  {"bevel", "AM", bevelPart, checked.bevel},
		api.YardDrop:   {"drop", "A", bevelPart, checked.drop},
		api.YardTime:   {"time", "AM", steamPart, checked.time},
		api.YardPay:    {"pay", "AB", billPart, checked.pay},
	}
}

func kindOf(e api.YardEntry) (kind, bool) {
	all := kinds()
	if !terms.IsIndex(int(e.Kind), len(all)) {
		return kind{}, false
	}
	return all[e.Kind], true
}

// usesAll tells whether all fields of an entry that are not empty are used by its kind.
func (k kind) usesAll(e api.YardEntry) bool {
	used := api.YardEntry{Hand: e.Hand, Kind: e.Kind}
	for _, field := range k.uses {
		switch field {
		case 'A':
			used.A = e.A
		case 'B':
			used.B = e.B
		case 'C':
			used.C = e.C
		case 'M':
			used.M = e.M
		case 'S':
			used.S = e.S
		}
	}
	return e == used
}

// entrySnag returns the snag of an entry by itself.
func entrySnag(e api.YardEntry) api.Snag {
	k, known := kindOf(e)
	switch {
	case !known || !terms.IsIndex(e.Hand, api.MaxYardHands):
		return api.Range
	case !k.usesAll(e):
		return api.Form
	case e.Kind == api.YardFigure && terms.IsOut(e.A, 1), e.Kind == api.YardStick && terms.IsOut(e.C, 1):
		return api.Range
	}
	return api.Clear
}

// put writes the line of an entry.
func put(e api.YardEntry) (string, api.Snag) {
	k, known := kindOf(e)
	if !known || slices.ContainsFunc([]int{e.Hand, e.A, e.B, e.C, e.M.Low, e.M.High}, isNoField) {
		return "", api.Range
	}
	if !isWord(e.S) || e.S == noString {
		return "", api.Form
	}
	fields := terms.Words(entryWord, e.Hand)
	fields = append(fields, terms.Words(k.word, e.A, e.B, e.C)...)
	fields = append(fields, terms.SpanText(e.M), stringText(e.S))
	return strings.Join(fields, " "), api.Clear
}

func isNoField(n int) bool { return n < -mostNumber || n > mostNumber }

// isWord tells whether a string has neither a blank nor a line feed.
func isWord(s string) bool { return !strings.ContainsAny(s, " \n") }

func stringText(s string) string {
	if s == "" {
		return noString
	}
	return s
}

// takeEntry reads a line that is to be that of an entry.
func takeEntry(line string) api.YardEntry {
	l := terms.LineOf(1, line)
	if !l.Is(entryWord, entryFields) {
		panic(l.Bad())
	}
	return readEntry(l)
}

// readEntry reads the fields of an entry.
func readEntry(l terms.Line) api.YardEntry {
	is := func(k kind) bool { return k.word == l.Word(2) }
	e := api.YardEntry{
		Hand: l.Number(1),
		Kind: api.YardKind(slices.IndexFunc(kinds(), is)),
		A:    l.Number(3),
		B:    l.Number(4),
		C:    l.Number(5),
		M:    l.Span(6),
		S:    l.Word(7),
	}
	if _, known := kindOf(e); !known || !isWord(e.S) {
		panic(l.Bad())
	}
	if e.S == noString {
		e.S = ""
	}
	return e
}
