package bevel_test

import (
	"reflect"
	"strings"
	"testing"

	"ribband/api"
	"ribband/bevel"
)

func TestP8_5Printed(t *testing.T) {
	b := api.BevelBook{
		Run: 99, Scale: 1, Follow: 999, Bite: 98, Wrong: 2,
		Offsets:  []api.Span{to(0, 2), one(959), to(957, 958), one(0)},
		Readings: []api.BevelReading{reading(2, to(-99999, 99999)), reading(0, one(-7)), reading(1, to(-2, -1)), reading(0, one(0))},
	}
	const text = "bevel 99 1 999 98 2\noffset 0..2\noffset 959\noffset 957..958\noffset 0\nreading 2 -99999..99999\nreading 0 -7\nreading 1 -2..-1\nreading 0 0\n"
	if got, s := bevel.Print(b); got != text || s != api.Clear {
		t.Error(got, s)
	}
	if got := parse(t, text); !reflect.DeepEqual(got, b) {
		t.Error(got)
	}
	for _, text := range []string{textE, textN, textC, textD, textF, textU, textW, textT, textS, textL} {
		if got := printed(t, parse(t, text)); got != text {
			t.Error(got)
		}
	}
	book := api.BevelBook{
		Run: 3, Scale: 4, Follow: 1, Bite: 2, Wrong: 1,
		Offsets:  []api.Span{one(10), to(12, 13), one(14), to(14, 15)},
		Readings: []api.BevelReading{reading(0, one(4)), reading(1, one(2))},
	}
	if got := parse(t, textE); !reflect.DeepEqual(got, book) {
		t.Error(got)
	}
	b.Bite = 100
	if got, s := bevel.Print(b); got != "" || s != api.Range {
		t.Error(got, s)
	}
	b.Bite, b.Offsets = 99, nil
	if got, s := bevel.Print(b); got != "" || s != api.Many {
		t.Error(got, s)
	}
}

func TestP8_5Lines(t *testing.T) {
	const head, offset = "bevel 3 4 1 2 1\n", "offset 5\n"
	const book = head + offset + offset + "offset 5..6\n"
	type want struct {
		line int
		s    api.Snag
	}
	first, form, next := want{1, api.Form}, want{5, api.Form}, want{6, api.Form}
	clear, wide, many, absent := want{0, api.Clear}, want{0, api.Range}, want{0, api.Many}, want{0, api.Absent}
	for text, want := range map[string]want{
		"":                             {0, api.Form},
		"\n":                           first,
		"\n" + book:                    first,
		book:                           clear,
		strings.TrimSuffix(book, "\n"): clear,
		book + "\n":                    form,
		book + "\n\n":                  form,
		book + head:                    form,
		head + head:                    {2, api.Form},
		head:                           many,
		head + offset + offset:         many,
		head + strings.Repeat(offset, api.MaxBevelFrames):   clear,
		head + strings.Repeat(offset, api.MaxBevelFrames+1): many,
		offset:          first,
		offset + head:   first,
		"reading 0 2\n": first,
		"bevels" + strings.TrimPrefix(book, "bevel"): first,
		"Bevel" + strings.TrimPrefix(book, "bevel"):  first,
		"bevel\n":                     first,
		"bevel \n":                    first,
		"bevel 3 4 1 2\n":             first,
		"bevel 3 4 1 2 \n":            first,
		"bevel 3 4 1 2 1 \n":          first,
		"bevel 3 4 1 2 1 1\n":         first,
		" bevel 3 4 1 2 1\n":          first,
		"bevel  3 4 1 2 1\n":          first,
		"bevel 3 4 1  2 1\n":          first,
		"bevel\t3 4 1 2 1\n":          first,
		"bevel 3 4 1 2 1\r\n":         first,
		"bevel x 4 1 2 1\n":           first,
		"bevel 3 x 1 2 1\n":           first,
		"bevel 3 4 x 2 1\n":           first,
		"bevel 3 4 1 x 1\n":           first,
		"bevel 3 4 1 2 x\n":           first,
		"bevel 03 4 1 2 1\n":          first,
		"bevel +3 4 1 2 1\n":          first,
		"bevel 3 4 1 2 01\n":          first,
		"bevel 3 4 1 2 -0\n":          first,
		"bevel 3..4 4 1 2 1\n":        first,
		"bevel 3 4 1 2 0..1\n":        first,
		"bevel 3 4 1 2 none\n":        first,
		"bevel 3 4 1 2 1+0\n":         first,
		"bevel 1234567890 4 1 2 1\n":  first,
		"bevel 123456789 4 1 2 1\n":   wide, // limits come before offsets
		"bevel 0 4 1 2 1\n":           wide,
		"bevel 100 4 1 2 1\n":         wide,
		"bevel -3 4 1 2 1\n":          wide,
		"bevel 3 0 1 2 1\n":           wide,
		"bevel 3 100 1 2 1\n":         wide,
		"bevel 3 4 -1 2 1\n":          wide,
		"bevel 3 4 1000 2 1\n":        wide,
		"bevel 3 4 1 0 1\n":           wide,
		"bevel 3 4 1 100 1\n":         wide,
		"bevel 3 4 1 2 3\n":           wide,
		"bevel 3 4 1 2 -1\n":          wide,
		"bevel 3 4 1 2 -999999999\n":  wide,
		"bevel 3 4 1 2 -1999999999\n": first,
		// offsets
		book + "offset 0\n":                    clear,
		book + "offset 957..959\n":             clear,
		book + "offset 957..960\n":             wide,
		book + "offset 0..3\n":                 wide,
		book + "offset -1..0\n":                wide,
		book + "offset 2..1\n":                 wide,
		book + "offset 960\n":                  wide,
		book + "offset -1\n":                   wide,
		book + "offset\n":                      form,
		book + "offset \n":                     form,
		book + "offset 0 \n":                   form,
		book + "offset 0 0\n":                  form,
		book + "offset  0\n":                   form,
		book + " offset 0\n":                   form,
		book + "offset x\n":                    form,
		book + "offset 0..0\n":                 form,
		book + "offset 0..\n":                  form,
		book + "offset ..1\n":                  form,
		book + "offset 0.1\n":                  form,
		book + "offset 0...1\n":                form,
		book + "offset 0..1..2\n":              form,
		book + "offset 0+1\n":                  form,
		book + "offset none\n":                 form,
		book + "offset 00\n":                   form,
		book + "offset 0..01\n":                form,
		book + "offset -0\n":                   form,
		book + "offset -0..1\n":                form,
		book + "offset +1\n":                   form,
		book + "offset 0\xff\n":                form,
		book + "offsets 0\n":                   form,
		book + offset + head:                   next,
		book + strings.Repeat(offset, 3):       clear,
		book + strings.Repeat(offset, 4):       many,
		book + "offset 5\noffset 5 \noffset\n": next,
		// readings
		book + "reading 0 2\n":                              clear,
		book + "reading 1 -99999..99999\n":                  clear,
		book + "reading 1 -3..-1\n":                         clear,
		book + offset + "reading 2 6\n":                     clear,
		book + "reading 2 6\n":                              absent, // the last frame has no bevel
		book + "reading -1 6\n":                             absent,
		book + "reading 2 7..6\n":                           absent,
		book + "reading 0 7..6\n":                           wide,
		book + "reading 0 -1..-3\n":                         wide,
		book + "reading 0 100000\n":                         wide,
		book + "reading 0 -100000..0\n":                     wide,
		book + "reading\n":                                  form,
		book + "reading 0\n":                                form,
		book + "reading 0 \n":                               form,
		book + "reading 0 6 6\n":                            form,
		book + "reading 0 6 \n":                             form,
		book + "reading  0 6\n":                             form,
		book + "reading x 6\n":                              form,
		book + "reading 0 x\n":                              form,
		book + "reading 0..1 6\n":                           form,
		book + "reading 00 6\n":                             form,
		book + "reading 0 06\n":                             form,
		book + "reading 0 -0\n":                             form,
		book + "reading -0 6\n":                             form,
		book + "reading 0 6..6\n":                           form,
		book + "reading 0 6..\n":                            form,
		book + "reading 0 6-7\n":                            form,
		book + "reading 0 6+7\n":                            form,
		book + "reading 0 none\n":                           form,
		book + "readings 0 6\n":                             form,
		book + "read 0 6\n":                                 form,
		book + "reading 0 6\n" + offset:                     next,
		book + "reading 0 6\n" + head:                       next,
		book + "reading 0\noffset\n":                        form, // the first line that is wrong
		book + strings.Repeat("reading 0 6\n", 4):           clear,
		book + strings.Repeat("reading 0 6\n", 5):           many,
		head + offset + "reading 0 6\n" + offset:            {4, api.Form},
		head + "reading 0 6\n":                              many,
		head + "reading 0 6\n" + offset:                     {3, api.Form},
		"bevel 999 0 0 0 9\n" + offset + "reading 7\n":      {3, api.Form}, // the form of all lines comes before the book's snag
		strings.Repeat("\n", api.MaxText):                   first,
		strings.Repeat("\n", api.MaxText+1):                 many,
		strings.Repeat("b", api.MaxText+1):                  many,
		book + strings.Repeat("x", api.MaxText-len(book)):   form,
		book + strings.Repeat("x", api.MaxText-len(book)+1): many,
	} {
		b, line, s := bevel.Parse(text)
		if line != want.line || s != want.s || s != api.Clear && !reflect.DeepEqual(b, api.BevelBook{}) {
			t.Errorf("%.60q: %v %v %v", text, b, line, s)
		}
	}
}
