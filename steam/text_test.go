package steam_test

import (
	"reflect"
	"strings"
	"testing"

	"ribband/api"
	"ribband/steam"
)

func TestP9_5Printed(t *testing.T) {
	b := api.SteamBook{
		Places: 3, Hands: 2, Tide: 200,
		Planks: []api.SteamPlank{
			{Name: "a", Steam: to(18, 20), Hang: 20, Soft: 1},
			{Name: "b234567890", Steam: one(1), Hang: 1, Soft: 20},
			{Name: "none", Steam: to(9, 10), Hang: 7, Soft: 8},
		},
		Notes: []api.SteamNote{note(to(0, 80), 0, 1, 2), note(one(80), 2), note(one(0), 0, 2)},
	}
	const text = "steam 3 2 200\nplank a 18..20 20 1\nplank b234567890 1 1 20\nplank none 9..10 7 8\nnote 0+1+2 0..80\nnote 2 80\nnote 0+2 0\n"
	if got, s := steam.Print(b); got != text || s != api.Clear {
		t.Error(got, s)
	}
	if got := parse(t, text); !reflect.DeepEqual(got, b) {
		t.Error(got)
	}
	for _, text := range []string{textV, textC, textD, textO, textT, textW} {
		if got := printed(t, parse(t, text)); got != text {
			t.Error(got)
		}
	}
	book := api.SteamBook{
		Places: 2, Hands: 1, Tide: 12,
		Planks: []api.SteamPlank{
			{Name: "keel", Steam: one(4), Hang: 2, Soft: 3},
			{Name: "rib", Steam: to(2, 3), Hang: 2, Soft: 2},
			{Name: "arm", Steam: one(3), Hang: 1, Soft: 4},
		},
		Notes: []api.SteamNote{note(to(6, 7), 0, 1)},
	}
	if got := parse(t, textV); !reflect.DeepEqual(got, book) {
		t.Error(got)
	}
	b.Places = 4
	if got, s := steam.Print(b); got != "" || s != api.Range {
		t.Error(got, s)
	}
	if got, s := steam.Print(api.SteamBook{}); got != "" || s != api.Range {
		t.Error(got, s)
	}
}

type parsed struct {
	line int
	s    api.Snag
}

func wantsParsed(t *testing.T, all map[string]parsed) {
	t.Helper()
	for text, want := range all {
		b, line, s := steam.Parse(text)
		if line != want.line || s != want.s || s != api.Clear && !reflect.DeepEqual(b, api.SteamBook{}) {
			t.Errorf("%.60q: %v %v %v", text, b, line, s)
		}
	}
}

func TestP9_5Lines(t *testing.T) {
	const head, two = "steam 2 1 12\n", "steam 2 1 12\nplank a 2..3 2 4\n"
	first, form := parsed{1, api.Form}, parsed{3, api.Form}
	clear, wide, many := parsed{0, api.Clear}, parsed{0, api.Range}, parsed{0, api.Many}
	wantsParsed(t, map[string]parsed{
		"":                              {0, api.Form},
		"\n":                            first,
		"\n" + two:                      first,
		two:                             clear,
		strings.TrimSuffix(two, "\n"):   clear,
		two + "\n":                      form,
		two + "\n\n":                    form,
		two + head:                      form,
		head + head:                     {2, api.Form},
		head:                            many,
		"plank a 2 2 4\n":               first,
		"note 0 3\n":                    first,
		"plank a 2 2 4\n" + head:        first,
		"steams 2 1 12\n":               first,
		"Steam 2 1 12\n":                first,
		"steam\n":                       first,
		"steam \n":                      first,
		"steam 2 1\n":                   first,
		"steam 2 1 \n":                  first,
		"steam 2 1 12 \n":               first,
		"steam 2 1 12 12\n":             first,
		" steam 2 1 12\n":               first,
		"steam  2 1 12\n":               first,
		"steam\t2 1 12\n":               first,
		"steam 2 1 12\r\n":              first,
		"steam x 1 12\n":                first,
		"steam 2 x 12\n":                first,
		"steam 2 1 x\n":                 first,
		"steam 02 1 12\n":               first,
		"steam 2 +1 12\n":               first,
		"steam 2 1 11..12\n":            first,
		"steam 2 1 -0\n":                first,
		"steam 2 1 1234567890\n":        first,
		"steam 0 1 12\n":                wide, // limits come before planks
		"steam 4 1 12\n":                wide,
		"steam 2 0 12\n":                wide,
		"steam 2 4 12\n":                wide,
		"steam 2 1 -1\n":                wide,
		"steam 2 1 201\n":               wide,
		"steam 123456789 1 12\n":        wide,
		"steam 2 1 0\nplank a 1 1 1\n":  clear,
		"steam 3 3 200\nplank a 1 1 1":  clear,
		"steam 2 1 12\nplank a 1 1 1\r": {2, api.Form},
		// the form of all lines comes before the book's snag
		"steam 9 9 999\n" + strings.Repeat("plank A 0 0 0\n", 5) + "x\n": {7, api.Form},
		strings.Repeat("\n", api.MaxText):                                first,
		strings.Repeat("\n", api.MaxText+1):                              many,
		strings.Repeat("s", api.MaxText+1):                               many,
		two + strings.Repeat("x", api.MaxText-len(two)):                  form,
		two + strings.Repeat("x", api.MaxText-len(two)+1):                many,
	})
}

func TestP9_5PlankLines(t *testing.T) {
	const two = "steam 2 1 12\nplank a 2..3 2 4\n"
	form, clear, wide := parsed{3, api.Form}, parsed{0, api.Clear}, parsed{0, api.Range}
	many, name := parsed{0, api.Many}, parsed{0, api.Name}
	wantsParsed(t, map[string]parsed{
		two + "plank b 1 1 1\n":                     clear,
		two + "plank b 18..20 20 20\n":              clear,
		two + "plank none 1 1 1\n":                  clear,
		two + "plank a 1 1 1\n":                     {0, api.Again},
		two + "plank B 1 1 1\n":                     name, // NAME is any field
		two + "plank 7 1 1 1\n":                     name,
		two + "plank b+c 1 1 1\n":                   name,
		two + "plank \xff 1 1 1\n":                  name,
		two + "plank b\tc 1 1 1\n":                  name,
		two + "plank b2345678901 1 1 1\n":           name,
		two + "plank B 0 1 1\n":                     name,
		two + "plank b 1..4 1 1\n":                  wide,
		two + "plank b 2..1 1 1\n":                  wide,
		two + "plank b 0 1 1\n":                     wide,
		two + "plank b 21 1 1\n":                    wide,
		two + "plank b -1..1 1 1\n":                 wide,
		two + "plank b 1 0 1\n":                     wide,
		two + "plank b 1 21 1\n":                    wide,
		two + "plank b 1 1 0\n":                     wide,
		two + "plank b 1 1 -1\n":                    wide,
		two + "plank b 1 1 21\n":                    wide,
		two + "plank\n":                             form,
		two + "plank b\n":                           form,
		two + "plank b 1\n":                         form,
		two + "plank b 1 1\n":                       form,
		two + "plank b 1 1 \n":                      form,
		two + "plank b 1 1 1 \n":                    form,
		two + "plank b 1 1 1 1\n":                   form,
		two + "plank  1 1 1\n":                      form,
		two + "plank b  1 1 1\n":                    form,
		two + "plank b c 1 1 1\n":                   form,
		two + "plank b x 1 1\n":                     form,
		two + "plank b 1 x 1\n":                     form,
		two + "plank b 1 1 x\n":                     form,
		two + "plank b 1..1 1 1\n":                  form,
		two + "plank b 1.. 1 1\n":                   form,
		two + "plank b ..1 1 1\n":                   form,
		two + "plank b 1.2 1 1\n":                   form,
		two + "plank b 1+2 1 1\n":                   form,
		two + "plank b none 1 1\n":                  form,
		two + "plank b 1 1..2 1\n":                  form,
		two + "plank b 1 1 1..2\n":                  form,
		two + "plank b 01 1 1\n":                    form,
		two + "plank b 1 01 1\n":                    form,
		two + "plank b 1 1 01\n":                    form,
		two + "plank b 1 1 1\xff\n":                 form,
		two + "planks b 1 1 1\n":                    form,
		two + "Plank b 1 1 1\n":                     form,
		two + "plank b 1 1 1\nsteam 2 1 12\n":       {4, api.Form},
		two + strings.Repeat("plank b 1 1 1\n", 4):  many, // how many there are comes before each of them
		two + strings.Repeat("plank b 1 1 1\n", 3):  {0, api.Again},
		two + "plank b 1 1 1\nplank c 1 1 1\n":      clear,
		two + "plank b 1 1 1\nplank c 1 1 1 \n":     {4, api.Form},
		two + "plank b 1 1 1\nplank c 1 1 1\nplank": {5, api.Form},
	})
}

func TestP9_5NoteLines(t *testing.T) {
	const two = "steam 2 1 12\nplank a 2..3 2 4\n"
	form, clear, wide := parsed{3, api.Form}, parsed{0, api.Clear}, parsed{0, api.Range}
	many, absent, turned := parsed{0, api.Many}, parsed{0, api.Absent}, parsed{0, api.Turned}
	wantsParsed(t, map[string]parsed{
		two + "note 0 3\n":                                   clear,
		two + "note 0 0..80\n":                               clear,
		two + "plank b 1 1 1\nnote 0+1 3\n":                  clear,
		two + "plank b 1 1 1\nnote 1+0 3\n":                  turned,
		two + "note none 3\n":                                many,
		two + "note none 3..2\n":                             many,
		two + "note 1 3\n":                                   absent,
		two + "note -1 3\n":                                  absent,
		two + "note 0+1 3\n":                                 absent,
		two + "note 0+0 3\n":                                 turned,
		two + "note 0+0+1 3\n":                               turned,
		two + "note 0 3..2\n":                                wide,
		two + "note 0 81\n":                                  wide,
		two + "note 0 -1..3\n":                               wide,
		two + "note\n":                                       form,
		two + "note 0\n":                                     form,
		two + "note 0 \n":                                    form,
		two + "note 0 3 3\n":                                 form,
		two + "note 0 3 \n":                                  form,
		two + "note  0 3\n":                                  form,
		two + "note x 3\n":                                   form,
		two + "note 0 x\n":                                   form,
		two + "note 0+ 3\n":                                  form,
		two + "note +0 3\n":                                  form,
		two + "note 0++1 3\n":                                form,
		two + "note 00 3\n":                                  form,
		two + "note 0+none 3\n":                              form,
		two + "note 0..1 3\n":                                form,
		two + "note 0,1 3\n":                                 form,
		two + "note 0 3..3\n":                                form,
		two + "note 0 03\n":                                  form,
		two + "note 0 none\n":                                form,
		two + "notes 0 3\n":                                  form,
		two + "note 0 3\nplank b 1 1 1\n":                    {4, api.Form},
		two + "note 0 3\nsteam 2 1 12\n":                     {4, api.Form},
		two + "note 0\nplank\n":                              form, // the first line that is wrong
		two + strings.Repeat("note 0 3\n", 3):                clear,
		two + strings.Repeat("note 0 3\n", 4):                many,
		two + strings.Repeat("note 7 99\n", 4):               many,
		two + "note " + strings.Repeat("0+", 9999) + "0 3\n": turned,
	})
}
