package butt_test

import (
	"reflect"
	"strings"
	"testing"

	"ribband/api"
	"ribband/butt"
)

func TestP6_5Printed(t *testing.T) {
	b := api.ButtBook{
		Frames: 6, Strakes: 3, Gap: 5, Between: 2, Least: 4,
		Kinds: []api.ButtKind{{Long: 1, Cost: 99, Many: to(10, 12)}, {Long: 5, Cost: 0, Many: one(0)}, {Long: 9, Cost: 7, Many: to(0, 1)}},
		Notes: []api.ButtNote{note(to(0, 36), 0, 1, 2), note(one(36), 2), note(one(0), 0, 2)},
	}
	const text = "butt 6 3 5 2 4\nkind 1 99 10..12\nkind 5 0 0\nkind 9 7 0..1\nnote 0+1+2 0..36\nnote 2 36\nnote 0+2 0\n"
	if got, s := butt.Print(b); got != text || s != api.Clear {
		t.Error(got, s)
	}
	if got := parse(t, text); !reflect.DeepEqual(got, b) {
		t.Error(got)
	}
	for _, text := range []string{textP, textC, textO, textN, textE} {
		if got := printed(t, parse(t, text)); got != text {
			t.Error(got)
		}
	}
	book := api.ButtBook{
		Frames: 6, Strakes: 2, Gap: 2, Between: 1, Least: 2,
		Kinds: []api.ButtKind{{Long: 2, Cost: 1, Many: to(2, 3)}, {Long: 4, Cost: 3, Many: one(3)}},
		Notes: []api.ButtNote{note(one(2), 0), note(one(6), 0, 1)},
	}
	if got := parse(t, textC); !reflect.DeepEqual(got, book) {
		t.Error(got)
	}
	b.Gap = 6
	if got, s := butt.Print(b); got != "" || s != api.Range {
		t.Error(got, s)
	}
	if got, s := butt.Print(api.ButtBook{}); got != "" || s != api.Range {
		t.Error(got, s)
	}
}

func TestP6_5Lines(t *testing.T) {
	const head, two = "butt 6 2 2 1 2\n", "butt 6 2 2 1 2\nkind 2 1 2..3\n"
	type want struct {
		line int
		s    api.Snag
	}
	form, clear, wide := want{3, api.Form}, want{0, api.Clear}, want{0, api.Range}
	first, many, absent, turned := want{1, api.Form}, want{0, api.Many}, want{0, api.Absent}, want{0, api.Turned}
	for text, want := range map[string]want{
		"":                            {0, api.Form},
		"\n":                          first,
		"\n" + two:                    first,
		two:                           clear,
		strings.TrimSuffix(two, "\n"): clear,
		two + "\n":                    form,
		two + "\n\n":                  form,
		two + head:                    form,
		head + head:                   {2, api.Form},
		head:                          many,
		"kind 2 1 2\n":                first,
		"note 0 3\n":                  first,
		"kind 2 1 2\n" + head:         first,
		"butts 6 2 2 1 2\n":           first,
		"Butt 6 2 2 1 2\n":            first,
		"butt\n":                      first,
		"butt \n":                     first,
		"butt 6 2 2 1\n":              first,
		"butt 6 2 2 1 \n":             first,
		"butt 6 2 2 1 2 \n":           first,
		"butt 6 2 2 1 2 2\n":          first,
		" butt 6 2 2 1 2\n":           first,
		"butt  6 2 2 1 2\n":           first,
		"butt\t6 2 2 1 2\n":           first,
		"butt 6 2 2 1 2\r\n":          first,
		"butt x 2 2 1 2\n":            first,
		"butt 6 x 2 1 2\n":            first,
		"butt 6 2 x 1 2\n":            first,
		"butt 6 2 2 x 2\n":            first,
		"butt 6 2 2 1 x\n":            first,
		"butt 06 2 2 1 2\n":           first,
		"butt +6 2 2 1 2\n":           first,
		"butt 6 2 2 1 1..2\n":         first,
		"butt 6 2 2 -0 2\n":           first,
		"butt 6 2 2 -1 2\n":           wide, // limits come before kinds
		"butt 6 2 2 1 1234567890\n":   first,
		"butt 6 2 2 1 7\n":            wide,
		"butt 7 2 2 1 2\n":            wide,
		"butt 6 4 2 1 2\n":            wide,
		"butt 6 2 6 1 2\n":            wide,
		"butt 6 2 2 3 2\n":            wide,
		"butt 123456789 2 2 1 2\n":    wide,
		// kinds
		two + "kind 3 0 0\n":                          clear,
		two + "kind 9 99 10..12\n":                    clear,
		two + "kind 3 0 0..3\n":                       wide,
		two + "kind 3 0 2..1\n":                       wide,
		two + "kind 3 0 13\n":                         wide,
		two + "kind 3 0 -1\n":                         wide,
		two + "kind 3 -1 0\n":                         wide,
		two + "kind 3 100 0\n":                        wide,
		two + "kind 10 0 0\n":                         wide,
		two + "kind -3 0 0\n":                         wide,
		two + "kind 2 0 0\n":                          turned,
		two + "kind 1 0 0\n":                          turned,
		two + "kind\n":                                form,
		two + "kind 3\n":                              form,
		two + "kind 3 0\n":                            form,
		two + "kind 3 0 \n":                           form,
		two + "kind 3 0 0 0\n":                        form,
		two + "kind 3 0 0 \n":                         form,
		two + "kind  3 0 0\n":                         form,
		two + "kind x 0 0\n":                          form,
		two + "kind 3 x 0\n":                          form,
		two + "kind 3 0 x\n":                          form,
		two + "kind 3..4 0 0\n":                       form,
		two + "kind 3 0..1 0\n":                       form,
		two + "kind 3 0 0..0\n":                       form,
		two + "kind 3 0 0..\n":                        form,
		two + "kind 3 0 ..1\n":                        form,
		two + "kind 3 0 0.1\n":                        form,
		two + "kind 3 0 0+1\n":                        form,
		two + "kind 3 0 none\n":                       form,
		two + "kind 03 0 0\n":                         form,
		two + "kind 3 00 0\n":                         form,
		two + "kind 3 0 00\n":                         form,
		two + "kind 3 0 -0\n":                         form,
		two + "kind 3 0 0\xff\n":                      form,
		two + "kinds 3 0 0\n":                         form,
		two + "kind 3 0 0\n" + head:                   {4, api.Form},
		two + "kind 3 0 0\nkind 4 0 0\n":              clear,
		two + "kind 3 0 0\nkind 4 0 0\nkind 5 0 0\n":  many,
		two + "kind 3 0 0\nkind 4 0 0\nkind 5 0 0 \n": {5, api.Form},
		// notes
		two + "note 0 3\n":                    clear,
		two + "note 0 0..36\n":                clear,
		two + "kind 3 0 0\nnote 0+1 3\n":      clear,
		two + "note none 3\n":                 many,
		two + "note 1 3\n":                    absent,
		two + "note -1 3\n":                   absent,
		two + "note 0+1 3\n":                  absent,
		two + "note 0+0 3\n":                  turned,
		two + "note 0+0+1 3\n":                turned,
		two + "note 0 3..2\n":                 wide,
		two + "note 0 37\n":                   wide,
		two + "note 0 -1..3\n":                wide,
		two + "note\n":                        form,
		two + "note 0\n":                      form,
		two + "note 0 \n":                     form,
		two + "note 0 3 3\n":                  form,
		two + "note 0 3 \n":                   form,
		two + "note  0 3\n":                   form,
		two + "note x 3\n":                    form,
		two + "note 0 x\n":                    form,
		two + "note 0+ 3\n":                   form,
		two + "note +0 3\n":                   form,
		two + "note 0++1 3\n":                 form,
		two + "note 00 3\n":                   form,
		two + "note 0+none 3\n":               form,
		two + "note 0..1 3\n":                 form,
		two + "note 0,1 3\n":                  form,
		two + "note 0 3..3\n":                 form,
		two + "note 0 03\n":                   form,
		two + "note 0 none\n":                 form,
		two + "notes 0 3\n":                   form,
		two + "note 0 3\nkind 3 0 0\n":        {4, api.Form},
		two + "note 0 3\n" + head:             {4, api.Form},
		two + "note 0\nkind\n":                form, // the first line that is wrong
		two + strings.Repeat("note 0 3\n", 3): clear,
		two + strings.Repeat("note 0 3\n", 4): many,
		// the form of all lines comes before the book's snag
		"butt 9 9 9 9 9\n" + strings.Repeat("kind 1 1 1\n", 5) + "x\n": {7, api.Form},
		strings.Repeat("\n", api.MaxText):                              first,
		strings.Repeat("\n", api.MaxText+1):                            many,
		strings.Repeat("b", api.MaxText+1):                             many,
		two + strings.Repeat("x", api.MaxText-len(two)):                form,
		two + strings.Repeat("x", api.MaxText-len(two)+1):              many,
	} {
		b, line, s := butt.Parse(text)
		if line != want.line || s != want.s || s != api.Clear && !reflect.DeepEqual(b, api.ButtBook{}) {
			t.Errorf("%.60q: %v %v %v", text, b, line, s)
		}
	}
}
