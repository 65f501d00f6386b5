package strake_test

import (
	"reflect"
	"strings"
	"testing"

	"ribband/api"
	"ribband/strake"
)

func TestP5_4Printed(t *testing.T) {
	b := api.StrakeBook{
		Strakes: 4, Least: 16, Most: 20, Taper: 9, Bend: 99,
		Girths: []api.Span{to(97, 99), one(0), to(0, 1), one(70)},
		Marks:  []api.StrakeMark{mark(3, 2, to(0, 20)), mark(0, 1, one(17)), mark(0, 1, one(0))},
	}
	const text = "strake 4 16 20 9 99\ngirth 97..99\ngirth 0\ngirth 0..1\ngirth 70\nmark 3 2 0..20\nmark 0 1 17\nmark 0 1 0\n"
	if got, s := strake.Print(b); got != text || s != api.Clear {
		t.Error(got, s)
	}
	if got := parse(t, text); !reflect.DeepEqual(got, b) {
		t.Error(got)
	}
	for _, text := range []string{girthsS, textS, textC, textN, textO} {
		if got := printed(t, parse(t, text)); got != text {
			t.Error(got)
		}
	}
	book := api.StrakeBook{
		Strakes: 2, Least: 2, Most: 4, Taper: 1, Bend: 2,
		Girths: []api.Span{to(5, 6), one(7), to(6, 7)},
		Marks:  []api.StrakeMark{mark(0, 1, one(3))},
	}
	if got := parse(t, textS); !reflect.DeepEqual(got, book) {
		t.Error(got)
	}
	b.Bend = 100
	if got, s := strake.Print(b); got != "" || s != api.Range {
		t.Error(got, s)
	}
	if got, s := strake.Print(api.StrakeBook{}); got != "" || s != api.Range {
		t.Error(got, s)
	}
}

func TestP5_4Lines(t *testing.T) {
	const head, two = "strake 1 3 5 0 9\n", "strake 1 3 5 0 9\ngirth 3..5\ngirth 4..6\n"
	type want struct {
		line int
		s    api.Snag
	}
	form, clear, wide := want{4, api.Form}, want{0, api.Clear}, want{0, api.Range}
	first, many, absent := want{1, api.Form}, want{0, api.Many}, want{0, api.Absent}
	for text, want := range map[string]want{
		"":                            {0, api.Form},
		"\n":                          first,
		"\n" + two:                    first,
		two:                           clear,
		strings.TrimSuffix(two, "\n"): clear,
		two + "\n":                    form,
		two + "\n\n":                  form,
		two + head:                    form,
		head + head:                   {2, api.Form},
		head:                          many,
		head + "girth 3\n":            many,
		"girth 3\n":                   first,
		"mark 0 0 3\n":                first,
		"girth 3\n" + two:             first,
		"strakes 1 3 5 0 9\n":         first,
		"Strake 1 3 5 0 9\n":          first,
		"strake\n":                    first,
		"strake \n":                   first,
		"strake 1 3 5 0\n":            first,
		"strake 1 3 5 0 \n":           first,
		"strake 1 3 5 0 9 \n":         first,
		"strake 1 3 5 0 9 9\n":        first,
		" strake 1 3 5 0 9\n":         first,
		"strake  1 3 5 0 9\n":         first,
		"strake\t1 3 5 0 9\n":         first,
		"strake 1 3 5 0 9\r\n":        first,
		"strake x 3 5 0 9\n":          first,
		"strake 1 x 5 0 9\n":          first,
		"strake 1 3 x 0 9\n":          first,
		"strake 1 3 5 x 9\n":          first,
		"strake 1 3 5 0 x\n":          first,
		"strake 01 3 5 0 9\n":         first,
		"strake 1 +3 5 0 9\n":         first,
		"strake 1 3 5 -0 9\n":         first,
		"strake 1 3..5 5 0 9\n":       first,
		"strake 1 3 5 0 1000000000\n": first,
		"strake -1 3 5 0 9\n":         wide,
		"strake 1 3 5 0 -1\n":         wide,
		"strake 1 999999999 5 0 9\n":  wide,
		"strake 1 3 8 0 9\n":          wide,
		"strake 5 3 5 0 9\n":          wide,
		// girths
		two + "girth 0..2\n":                 clear,
		two + "girth 97..99\n":               clear,
		two + "girth 4..3\n":                 wide,
		two + "girth 1..4\n":                 wide,
		two + "girth 100\n":                  wide,
		two + "girth -1\n":                   wide,
		two + "girth\n":                      form,
		two + "girth \n":                     form,
		two + "girth 3 4\n":                  form,
		two + "girth 3 \n":                   form,
		two + "girth  3\n":                   form,
		two + "girth 3..3\n":                 form,
		two + "girth 3..\n":                  form,
		two + "girth ..3\n":                  form,
		two + "girth 3.4\n":                  form,
		two + "girth 3+4\n":                  form,
		two + "girth 03\n":                   form,
		two + "girth none\n":                 form,
		two + "girth 3\xff\n":                form,
		two + "girths 3\n":                   form,
		two + "girth 3\ngirth 3\n":           clear,
		two + strings.Repeat("girth 3\n", 3): many,
		// marks
		two + "mark 0 0 3\n":                    clear,
		two + "mark 1 0 0..20\n":                clear,
		two + "mark 0 0 3..2\n":                 wide,
		two + "mark 0 0 21\n":                   wide,
		two + "mark 0 0 -1..3\n":                wide,
		two + "mark 2 0 3\n":                    absent,
		two + "mark 0 1 3\n":                    absent,
		two + "mark -1 0 3\n":                   absent,
		two + "mark 0 -1 3\n":                   absent,
		two + "mark 2 0 3..2\n":                 absent,
		two + "mark\n":                          form,
		two + "mark 0\n":                        form,
		two + "mark 0 0\n":                      form,
		two + "mark 0 0 \n":                     form,
		two + "mark 0 0 3 4\n":                  form,
		two + "mark 0 0 3 \n":                   form,
		two + "mark  0 0 3\n":                   form,
		two + "mark x 0 3\n":                    form,
		two + "mark 0 x 3\n":                    form,
		two + "mark 0 0 x\n":                    form,
		two + "mark 0..1 0 3\n":                 form,
		two + "mark 0 0..1 3\n":                 form,
		two + "mark 0 00 3\n":                   form,
		two + "mark 0 0 3..3\n":                 form,
		two + "mark 0 0 03\n":                   form,
		two + "marks 0 0 3\n":                   form,
		two + "mark 0 0 3\ngirth 3\n":           {5, api.Form},
		two + "mark 0 0 3\n" + head:             {5, api.Form},
		two + "mark 0 0\ngirth\n":               form, // the first line that is wrong
		two + strings.Repeat("mark 0 0 3\n", 3): clear,
		two + strings.Repeat("mark 0 0 3\n", 4): many,
		// the form of all lines comes before the book's snag
		"strake 9 9 9 99 999\n" + strings.Repeat("girth 3\n", 5) + "x\n": {7, api.Form},
		strings.Repeat("\n", api.MaxText):                                first,
		strings.Repeat("\n", api.MaxText+1):                              many,
		strings.Repeat("s", api.MaxText+1):                               many,
		two + strings.Repeat("x", api.MaxText-len(two)):                  form,
		two + strings.Repeat("x", api.MaxText-len(two)+1):                many,
	} {
		b, line, s := strake.Parse(text)
		if line != want.line || s != want.s || s != api.Clear && !reflect.DeepEqual(b, api.StrakeBook{}) {
			t.Errorf("%.60q: %v %v %v", text, b, line, s)
		}
	}
}
