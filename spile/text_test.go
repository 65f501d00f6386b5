package spile_test

import (
	"reflect"
	"strings"
	"testing"

	"ribband/api"
	"ribband/spile"
)

func TestP7_5Printed(t *testing.T) {
	b := api.SpileBook{
		Opening: 99, Slip: 3,
		Points: []api.SpilePoint{{Mark: to(0, 2), Board: one(199), Width: 0}, {Mark: one(99), Board: one(0), Width: 199}, {Mark: to(97, 98), Board: to(0, 199), Width: 7}},
		Checks: []api.SpileCheck{check(2, to(-199, 199)), check(0, one(-7)), check(1, to(-2, -1))},
	}
	const text = "spile 99 3\npoint 0..2 199 0\npoint 99 0 199\npoint 97..98 0..199 7\ncheck 2 -199..199\ncheck 0 -7\ncheck 1 -2..-1\n"
	if got, s := spile.Print(b); got != text || s != api.Clear {
		t.Error(got, s)
	}
	if got := parse(t, text); !reflect.DeepEqual(got, b) {
		t.Error(got)
	}
	for _, text := range []string{textP, textC, textF, textN, textO, textB, textT, textS, textL, textE} {
		if got := printed(t, parse(t, text)); got != text {
			t.Error(got)
		}
	}
	book := api.SpileBook{
		Opening: 10, Slip: 1,
		Points: []api.SpilePoint{{Mark: one(4), Board: to(0, 12), Width: 4}, {Mark: to(5, 6), Board: to(1, 12), Width: 4}, {Mark: one(4), Board: to(0, 10), Width: 4}},
		Checks: []api.SpileCheck{check(2, to(6, 7)), check(0, one(6)), check(0, one(5))},
	}
	if got := parse(t, textC); !reflect.DeepEqual(got, book) {
		t.Error(got)
	}
	b.Slip = 4
	if got, s := spile.Print(b); got != "" || s != api.Range {
		t.Error(got, s)
	}
	if got, s := spile.Print(api.SpileBook{}); got != "" || s != api.Many {
		t.Error(got, s)
	}
}

func TestP7_5Lines(t *testing.T) {
	const head, point = "spile 10 1\n", "point 4 0..12 4\n"
	const two = head + point + "point 5..6 1..12 4\n"
	type want struct {
		line int
		s    api.Snag
	}
	first, form, next := want{1, api.Form}, want{4, api.Form}, want{5, api.Form}
	clear, wide, many, absent := want{0, api.Clear}, want{0, api.Range}, want{0, api.Many}, want{0, api.Absent}
	for text, want := range map[string]want{
		"":                            {0, api.Form},
		"\n":                          first,
		"\n" + two:                    first,
		two:                           clear,
		strings.TrimSuffix(two, "\n"): clear,
		two + "\n":                    form,
		two + "\n\n":                  form,
		two + head:                    form,
		head + head:                   {2, api.Form},
		head:                          many,
		head + point:                  many,
		head + strings.Repeat(point, api.MaxSpilePoints):   clear,
		head + strings.Repeat(point, api.MaxSpilePoints+1): many,
		point:         first,
		point + head:  first,
		"check 0 6\n": first,
		"spiles" + strings.TrimPrefix(two, "spile"): first,
		"Spile" + strings.TrimPrefix(two, "spile"):  first,
		"spile\n":              first,
		"spile \n":             first,
		"spile 10\n":           first,
		"spile 10 \n":          first,
		"spile 10 1 \n":        first,
		"spile 10 1 1\n":       first,
		" spile 10 1\n":        first,
		"spile  10 1\n":        first,
		"spile\t10 1\n":        first,
		"spile 10 1\r\n":       first,
		"spile x 1\n":          first,
		"spile 10 x\n":         first,
		"spile 010 1\n":        first,
		"spile +10 1\n":        first,
		"spile 10 01\n":        first,
		"spile 10 -0\n":        first,
		"spile 10..11 1\n":     first,
		"spile 10 0..1\n":      first,
		"spile 10 none\n":      first,
		"spile 1234567890 1\n": first,
		"spile 123456789 1\n":  wide, // limits come before points
		"spile 100 1\n":        wide,
		"spile -1 1\n":         wide,
		"spile 10 4\n":         wide,
		"spile 10 -1\n":        wide,
		// points
		two + "point 0 0 0\n":                      clear,
		two + "point 97..99 0..199 199\n":          clear,
		two + "point 97..100 0 0\n":                wide,
		two + "point 0..3 0 0\n":                   wide,
		two + "point -1..0 0 0\n":                  wide,
		two + "point 2..1 0 0\n":                   wide,
		two + "point 0 0..200 0\n":                 wide,
		two + "point 0 -1 0\n":                     wide,
		two + "point 0 2..1 0\n":                   wide,
		two + "point 0 0 200\n":                    wide,
		two + "point 0 0 -1\n":                     wide,
		two + "point\n":                            form,
		two + "point 0\n":                          form,
		two + "point 0 0\n":                        form,
		two + "point 0 0 \n":                       form,
		two + "point 0 0 0 \n":                     form,
		two + "point 0 0 0 0\n":                    form,
		two + "point  0 0 0\n":                     form,
		two + "point x 0 0\n":                      form,
		two + "point 0 x 0\n":                      form,
		two + "point 0 0 x\n":                      form,
		two + "point 0..0 0 0\n":                   form,
		two + "point 0 0..0 0\n":                   form,
		two + "point 0 0 0..1\n":                   form,
		two + "point 0.. 0 0\n":                    form,
		two + "point ..1 0 0\n":                    form,
		two + "point 0.1 0 0\n":                    form,
		two + "point 0+1 0 0\n":                    form,
		two + "point none 0 0\n":                   form,
		two + "point 00 0 0\n":                     form,
		two + "point 0 00 0\n":                     form,
		two + "point 0 0 00\n":                     form,
		two + "point 0 0 -0\n":                     form,
		two + "point -0..1 0 0\n":                  form,
		two + "point 0 0 0\xff\n":                  form,
		two + "points 0 0 0\n":                     form,
		two + point + head:                         next,
		two + "point 0 0 9\npoint 0 0 9\n":         clear,
		two + strings.Repeat("point 0 0 9\n", 3):   many,
		two + "point 0 0 9\npoint 0 0 9 \npoint\n": next,
		// checks
		two + "check 0 6\n":                               clear,
		two + "check 1 -199..199\n":                       clear,
		two + "check 1 -3..-1\n":                          clear,
		two + "check 2 6\n":                               absent,
		two + "check -1 6\n":                              absent,
		two + "check 2 7..6\n":                            absent,
		two + "check 0 7..6\n":                            wide,
		two + "check 0 -1..-3\n":                          wide,
		two + "check 0 200\n":                             wide,
		two + "check 0 -200..0\n":                         wide,
		two + "check\n":                                   form,
		two + "check 0\n":                                 form,
		two + "check 0 \n":                                form,
		two + "check 0 6 6\n":                             form,
		two + "check 0 6 \n":                              form,
		two + "check  0 6\n":                              form,
		two + "check x 6\n":                               form,
		two + "check 0 x\n":                               form,
		two + "check 0..1 6\n":                            form,
		two + "check 00 6\n":                              form,
		two + "check 0 06\n":                              form,
		two + "check 0 -0\n":                              form,
		two + "check 0 6..6\n":                            form,
		two + "check 0 6..\n":                             form,
		two + "check 0 6-7\n":                             form,
		two + "check 0 none\n":                            form,
		two + "checks 0 6\n":                              form,
		two + "check 0 6\n" + point:                       next,
		two + "check 0 6\n" + head:                        next,
		two + "check 0\npoint\n":                          form, // the first line that is wrong
		two + strings.Repeat("check 0 6\n", 3):            clear,
		two + strings.Repeat("check 0 6\n", 4):            many,
		head + point + "check 0 6\n" + point:              form,
		head + "check 0 6\n":                              many,
		head + "check 0 6\n" + point:                      {3, api.Form},
		"spile 999 9\n" + point + "check 7\n":             {3, api.Form}, // the form of all lines comes before the book's snag
		strings.Repeat("\n", api.MaxText):                 first,
		strings.Repeat("\n", api.MaxText+1):               many,
		strings.Repeat("s", api.MaxText+1):                many,
		two + strings.Repeat("x", api.MaxText-len(two)):   form,
		two + strings.Repeat("x", api.MaxText-len(two)+1): many,
	} {
		b, line, s := spile.Parse(text)
		if line != want.line || s != want.s || s != api.Clear && !reflect.DeepEqual(b, api.SpileBook{}) {
			t.Errorf("%.60q: %v %v %v", text, b, line, s)
		}
	}
}
