package mould_test

import (
	"reflect"
	"strings"
	"testing"

	"ribband/api"
	"ribband/mould"
)

func TestP4_5Printed(t *testing.T) {
	b := api.MouldBook{
		Saw:    3,
		Pieces: []api.MouldPiece{{Name: "a", Length: one(1), Bears: 2}, {Name: "b123456789", Length: to(38, 40)}},
		Boards: []api.MouldBoard{{Name: "a", Long: 40, Knots: knots(to(0, 1), one(3), to(5, 39))}, {Name: "none", Long: 1}},
		Tapes:  []api.MouldTape{{Pieces: []int{0, 1}, Sum: to(0, 120)}, {Pieces: []int{1}, Sum: one(39)}},
	}
	const text = "mould 3\npiece a 1 2\npiece b123456789 38..40 0\nboard a 40 0..1+3+5..39\nboard none 1 none\ntape 0+1 0..120\ntape 1 39\n"
	if got, s := mould.Print(b); got != text || s != api.Clear {
		t.Error(got, s)
	}
	if got := parse(t, text); !reflect.DeepEqual(got, b) {
		t.Error(got)
	}
	for _, text := range []string{piecesM, headM, textM, textC, piecesM + "tape 1 3\n"} {
		if got := printed(t, parse(t, text)); got != text {
			t.Error(got)
		}
	}
	m := api.MouldBook{
		Saw:    1,
		Pieces: []api.MouldPiece{{Name: "keel", Length: to(4, 5)}, {Name: "rib", Length: one(3), Bears: 1}, {Name: "arm", Length: to(2, 3)}},
		Boards: []api.MouldBoard{{Name: "elm", Long: 8, Knots: knots(one(3))}, {Name: "oak", Long: 6}},
		Tapes:  []api.MouldTape{{Pieces: []int{0, 2}, Sum: one(7)}},
	}
	if got := parse(t, textM); !reflect.DeepEqual(got, m) {
		t.Error(got)
	}
	b.Saw = 4
	if got, s := mould.Print(b); got != "" || s != api.Range {
		t.Error(got, s)
	}
	if got, s := mould.Print(api.MouldBook{}); got != "" || s != api.Many {
		t.Error(got, s)
	}
}

func TestP4_5Lines(t *testing.T) {
	const head, two = "mould 1\n", "mould 1\npiece a 3 0\n"
	type want struct {
		line int
		s    api.Snag
	}
	form, clear, wide := want{3, api.Form}, want{0, api.Clear}, want{0, api.Range}
	first, many := want{1, api.Form}, want{0, api.Many}
	for text, want := range map[string]want{
		"":                            {0, api.Form},
		"\n":                          first,
		"\n" + two:                    first,
		two:                           clear,
		strings.TrimSuffix(two, "\n"): clear,
		two + "\n":                    form,
		two + "\n\n":                  form,
		two + head:                    form,
		head + head:                   {2, api.Form},
		head:                          many,
		"piece a 3 0\n" + two:         first,
		"board b 9 none\n":            first,
		"tape 0 3\n":                  first,
		"moulds 1\n":                  first,
		"Mould 1\n":                   first,
		"mould\n":                     first,
		"mould \n":                    first,
		"mould 1 \n":                  first,
		"mould 1 1\n":                 first,
		" mould 1\n":                  first,
		"mould  1\n":                  first,
		"mould\t1\n":                  first,
		"mould 1\r\n":                 first,
		"mould x\n":                   first,
		"mould 01\n":                  first,
		"mould +1\n":                  first,
		"mould -0\n":                  first,
		"mould 1..2\n":                first,
		"mould 1000000000\n":          first,
		"mould -1\n":                  wide,
		"mould 999999999\n":           wide,
		"mould 4\n":                   wide,
		// pieces
		two + "piece b 1..3 2\n":   clear,
		two + "piece b 3..1 2\n":   wide,
		two + "piece b 1..4 2\n":   wide,
		two + "piece b 0 2\n":      wide,
		two + "piece b 41 2\n":     wide,
		two + "piece b 1 3\n":      wide,
		two + "piece b 1 -1\n":     wide,
		two + "piece a 1 0\n":      {0, api.Again},
		two + "piece B 1 0\n":      {0, api.Name},
		two + "piece b\r 1 0\n":    {0, api.Name},
		two + "piece \xff 1 0\n":   {0, api.Name},
		two + "piece 1 1 0\n":      {0, api.Name},
		two + "piece\n":            form,
		two + "piece b\n":          form,
		two + "piece b 1\n":        form,
		two + "piece b 1 \n":       form,
		two + "piece  1 0\n":       form,
		two + "piece b 1 0 0\n":    form,
		two + "piece b 1 0 \n":     form,
		two + "piece b x 0\n":      form,
		two + "piece b 1 x\n":      form,
		two + "piece b 1..1 0\n":   form,
		two + "piece b 1.. 0\n":    form,
		two + "piece b 1 0..1\n":   form,
		two + "piece b 1+2 0\n":    form,
		two + "piece b 01 0\n":     form,
		two + "piece b 1 00\n":     form,
		two + "piece b 1 0\xff\n":  form,
		two + "pieces b 1 0\n":     form,
		two + "piece b 1 0\npiece": {4, api.Form},
		// boards
		two + "board b 9 none\n":               clear,
		two + "board a 9 none\n":               clear,
		two + "board b 9 8\n":                  clear,
		two + "board b 9 0+1..3+8\n":           clear,
		two + "board b 9 9\n":                  wide,
		two + "board b 9 3..2\n":               wide,
		two + "board b 9 -1..2\n":              wide,
		two + "board b 9 1+1\n":                {0, api.Turned},
		two + "board b 9 1+2+3+4\n":            many,
		two + "board b 0 none\n":               wide,
		two + "board b 41 none\n":              wide,
		two + "board B 9 none\n":               {0, api.Name},
		two + "board b 9 1\nboard b 9 1\n":     {0, api.Again},
		two + "board b 9\n":                    form,
		two + "board b 9 \n":                   form,
		two + "board b 9 none none\n":          form,
		two + "board b 9 None\n":               form,
		two + "board b 9 none+1\n":             form,
		two + "board b 9 1+none\n":             form,
		two + "board b 9 1+\n":                 form,
		two + "board b 9 +1\n":                 form,
		two + "board b 9 1++2\n":               form,
		two + "board b 9 +\n":                  form,
		two + "board b 9 1,2\n":                form,
		two + "board b 9 1..1\n":               form,
		two + "board b 9 1..2..3\n":            form,
		two + "board b 9 01\n":                 form,
		two + "board b 8..9 none\n":            form,
		two + "board b x none\n":               form,
		two + "board b none 9\n":               form,
		two + "boards b 9 none\n":              form,
		two + "board b 9 none\npiece c 1 0\n":  {4, api.Form},
		two + "board b 9 none\nboard c 9 0+\n": {4, api.Form},
		// tapes
		two + "tape 0 3\n":                       clear,
		two + "tape 0 0..120\n":                  clear,
		two + "tape 0 3..2\n":                    wide,
		two + "tape 0 121\n":                     wide,
		two + "tape 0 -1..3\n":                   wide,
		two + "tape none 3\n":                    many,
		two + "tape 1 3\n":                       {0, api.Absent},
		two + "tape -1 3\n":                      {0, api.Absent},
		two + "tape 0+0 3\n":                     {0, api.Turned},
		two + "tape 0\n":                         form,
		two + "tape 0 \n":                        form,
		two + "tape 0 3 3\n":                     form,
		two + "tape 0+ 3\n":                      form,
		two + "tape +0 3\n":                      form,
		two + "tape 0..1 3\n":                    form,
		two + "tape 0+none 3\n":                  form,
		two + "tape 0,1 3\n":                     form,
		two + "tape 00 3\n":                      form,
		two + "tape 0 3..3\n":                    form,
		two + "tape 0 2+3\n":                     form,
		two + "tape 0 none\n":                    form,
		two + "tapes 0 3\n":                      form,
		two + "tape 0 3\nboard b 9 none\n":       {4, api.Form},
		two + "tape 0 3\npiece b 1 0\n":          {4, api.Form},
		two + "tape 0 3\n" + head:                {4, api.Form},
		two + "tape 0\nboard b\n":                form, // the first line that is wrong
		two + strings.Repeat("tape 0 3\n", 4):    clear,
		two + strings.Repeat("tape 0 3\n", 5):    many,
		two + "piece b 1 0\npiece c 1 0\n":       clear,
		two + strings.Repeat("piece b 1 0\n", 3): many,
		two + strings.Repeat("board b 1 0\n", 4): many,
		// the form of all lines comes before the book's snag
		"mould 9\n" + strings.Repeat("board b 1 0\n", 4) + "x\n": {6, api.Form},
		strings.Repeat("\n", api.MaxText):                        first,
		strings.Repeat("\n", api.MaxText+1):                      many,
		two + strings.Repeat("x", api.MaxText-len(two)):          form,
		two + strings.Repeat("x", api.MaxText-len(two)+1):        many,
	} {
		b, line, s := mould.Parse(text)
		if line != want.line || s != want.s || s != api.Clear && !reflect.DeepEqual(b, api.MouldBook{}) {
			t.Errorf("%.60q: %v %v %v", text, b, line, s)
		}
	}
}
