package terms_test

import (
	"errors"
	"slices"
	"strings"
	"testing"

	"ribband/api"
	"ribband/terms"
)

// read is a line of a text of three kinds, which have the ranks 0, 1 and 3.
type read struct {
	rank int
	word string
	list []int
	x    []api.Span
}

func (r read) Rank() int { return r.rank }

func readLine(l terms.Line) read {
	switch {
	case l.Is("head", 1):
		return read{rank: 0, list: []int{l.Number(1)}}
	case l.Is("one", 2):
		return read{rank: 1, word: l.Word(1), x: []api.Span{l.Span(2)}}
	case l.Is("two", 2):
		return read{rank: 3, list: l.Numbers(1), x: l.Spans(2)}
	}
	panic(l.Bad())
}

func readAll(text string) []read { return terms.Read(text, readLine) }

func TestRead(t *testing.T) {
	list, err := terms.Try("head 7\none a! 2..3\none b 4\ntwo 5+6 none\ntwo none 1..2+3", readAll)
	want := []read{
		{0, "", []int{7}, nil},
		{1, "a!", nil, []api.Span{to(2, 3)}},
		{1, "b", nil, []api.Span{to(4, 4)}},
		{3, "", []int{5, 6}, nil},
		{3, "", nil, []api.Span{to(1, 2), to(3, 3)}},
	}
	equal := func(a, b read) bool {
		return a.rank == b.rank && a.word == b.word && slices.Equal(a.list, b.list) && slices.Equal(a.x, b.x)
	}
	if !slices.EqualFunc(list, want, equal) || err != nil {
		t.Error(list, err)
	}
}

func TestReadBad(t *testing.T) {
	for text, want := range map[string]terms.BadLine{
		"":                            0,
		"\n":                          1,
		"one a 2\n":                   1, // the first line is a head
		"head 7\nhead 7\n":            2, // and no other one is
		"head 7\ntwo 1 1\none a 2\n":  3,
		"head 7\ntwo 1 1\nhead 7\n":   3,
		"head 7\n\n":                  2,
		"head 7\none  2\n":            2,
		"head 7\none a\n":             2,
		"head 7\none a 2 3\n":         2,
		"head 7\none a 2..2\n":        2,
		"head 7\ntwo 1+ 1\n":          2,
		"head 7\ntwo 1 1+\n":          2,
		"head 7\ntwo 1 1\nthree 1 1":  3,
		"head x\none\n":               1, // the first one that is wrong decides
		"one a 2\nhead x\n":           1,
		"head 7\none a x\nhead 7\n":   2,
		"head 7\none a 2\none b 3 \n": 3,
	} {
		var bad terms.BadLine
		if list, err := terms.Try(text, readAll); len(list) > 0 || !errors.As(err, &bad) || bad != want {
			t.Errorf("%q: %v %v", text, list, err)
		}
	}
}

// A text that is too long comes first, then a wrong line, then the snag of what was read.
func TestParse(t *testing.T) {
	check := func(list []read) api.Snag {
		if len(list) > 2 {
			return api.Turned
		}
		return api.Clear
	}
	const good, wrong, long = "head 7\n", "head 7\none a 1\ntwo\n", "head 7\none a 1\none b 2\n"
	for i, x := range []struct {
		text       string
		many, line int
		s          api.Snag
	}{
		{good, 1, 0, api.Clear},
		{good + "one a 1", 2, 0, api.Clear},
		{"", 0, 0, api.Form},
		{wrong, 0, 3, api.Form},
		{long, 0, 0, api.Turned},
		{long + "two\n", 0, 4, api.Form},
		{good + strings.Repeat("x", api.MaxText-len(good)), 0, 2, api.Form},
		{good + strings.Repeat("x", api.MaxText-len(good)+1), 0, 0, api.Many},
	} {
		if list, line, s := terms.Parse(x.text, readAll, check); len(list) != x.many || line != x.line || s != x.s {
			t.Error(i, list, line, s)
		}
	}
}

// A line is read as the first kind says that has its word and as many fields.
func TestKnown(t *testing.T) {
	as := func(rank int) func(terms.Line) read {
		return func(l terms.Line) read { return read{rank: rank, word: l.Word(0)} }
	}
	all := func(text string) []read {
		return terms.Read(text, func(l terms.Line) read {
			return terms.Known(l, []terms.LineKind[read]{{"head", 0, as(0)}, {"one", 1, as(1)}, {"one", 2, as(2)}, {"one", 2, as(0)}})
		})
	}
	for text, want := range map[string]struct {
		ranks []int
		bad   terms.BadLine
	}{
		"head\none a\none a b\n": {[]int{0, 1, 2}, 0},
		"head\none a b c\n":      {nil, 2},
		"head\none\n":            {nil, 2},
		"head\ntwo a\n":          {nil, 2},
		"head a\n":               {nil, 1},
	} {
		list, err := terms.Try(text, all)
		var ranks []int
		for _, r := range list {
			ranks = append(ranks, r.rank)
		}
		var bad terms.BadLine
		if wrong := errors.As(err, &bad); !slices.Equal(ranks, want.ranks) || wrong != (want.bad > 0) || bad != want.bad {
			t.Errorf("%q: %v %v", text, ranks, err)
		}
	}
}

func TestLineOf(t *testing.T) {
	number := func(s string) int { return terms.LineOf(7, s).Number(1) }
	if n, err := terms.Try("one 2", number); n != 2 || err != nil {
		t.Error(n, err)
	}
	for _, s := range []string{"", " ", "one  2", "one 2 ", "one x"} {
		var bad terms.BadLine
		if _, err := terms.Try(s, number); !errors.As(err, &bad) || bad != 7 {
			t.Errorf("%q: %v", s, err)
		}
	}
}
