package offsets_test

import (
	"reflect"
	"strings"
	"testing"

	"ribband/api"
	"ribband/offsets"
)

func TestP1_5Printed(t *testing.T) {
	b := api.OffsetsTable{
		Wrong:    1,
		Stations: []string{"a", "b"},
		Waters:   []api.OffsetsLine{{At: 64, Figures: []string{"1-2-3", "1-?-0"}}, {At: 128, Figures: []string{"1-6-0", "1-4-4"}}},
		Butts:    []api.OffsetsLine{{At: 96, Figures: []string{"0-5-0", "0-9-0"}}},
	}
	if text, s := offsets.Print(b); text != textA || s != api.Clear {
		t.Error(text, s)
	}
	if now := parse(t, textA); !reflect.DeepEqual(now, b) {
		t.Error(now)
	}
	b.Wrong = 3
	if text, s := offsets.Print(b); text != "" || s != api.Range {
		t.Error(text, s)
	}
}

// P0.3, too: with or without the last line feed.
func TestP1_5ThereAndBack(t *testing.T) {
	eachTable(t, 200, func(t *testing.T, b api.OffsetsTable) {
		text := printed(t, b)
		if now := parse(t, text); !reflect.DeepEqual(now, b) {
			t.Error(now)
		}
		if now := parse(t, strings.TrimSuffix(text, "\n")); !reflect.DeepEqual(now, b) {
			t.Error(now)
		}
	})
}

func TestP1_5Lines(t *testing.T) {
	const head, one = "offsets 0\n", "offsets 0\nstation a\n"
	for text, want := range map[string]struct {
		line int
		s    api.Snag
	}{
		"":                              {0, api.Form},
		"\n":                            {1, api.Form},
		"\n" + one:                      {1, api.Form},
		head:                            {0, api.Many},
		one:                             {0, api.Clear},
		"offsets 0\nstation a":          {0, api.Clear},
		one + "\n":                      {3, api.Form},
		one + "\n\n":                    {3, api.Form},
		"station a\n" + head:            {1, api.Form},
		"water 0-0-0 -\n":               {1, api.Form},
		one + head:                      {3, api.Form},
		head + head:                     {2, api.Form},
		"offset 0\n":                    {1, api.Form},
		"Offsets 0\n":                   {1, api.Form},
		"offsets\n":                     {1, api.Form},
		"offsets \n":                    {1, api.Form},
		" offsets 0\n":                  {1, api.Form},
		"offsets 0 \n":                  {1, api.Form},
		"offsets  0\n":                  {1, api.Form},
		"offsets\t0\n":                  {1, api.Form},
		"offsets 0\r\n":                 {1, api.Form},
		"offsets 0 0\n":                 {1, api.Form},
		"offsets 00\nstation a\n":       {1, api.Form},
		"offsets 01\nstation a\n":       {1, api.Form},
		"offsets +1\nstation a\n":       {1, api.Form},
		"offsets -0\nstation a\n":       {1, api.Form},
		"offsets -01\nstation a\n":      {1, api.Form},
		"offsets -\nstation a\n":        {1, api.Form},
		"offsets --1\nstation a\n":      {1, api.Form},
		"offsets 1.\nstation a\n":       {1, api.Form},
		"offsets 1_0\nstation a\n":      {1, api.Form},
		"offsets 0x1\nstation a\n":      {1, api.Form},
		"offsets \u0661\nstation a\n":   {1, api.Form},
		"offsets 1000000000\nstation a": {1, api.Form},
		"offsets 999999999\nstation a":  {0, api.Range},
		"offsets -999999999\nstation a": {0, api.Range},
		"offsets -1\nstation a\n":       {0, api.Range},
		"offsets 3\nstation a\n":        {0, api.Range},
		"offsets 3\nstations a\n":       {2, api.Form},
		head + "station\n":              {2, api.Form},
		head + "station a b\n":          {2, api.Form},
		head + "station A\n":            {0, api.Name},
		head + "station a\r\n":          {0, api.Name},
		head + "station a\t\n":          {0, api.Name},
		one + "station a\n":             {0, api.Again},
		one + "station b\nstation c\nstation d\n":         {0, api.Many},
		one + "water 0-0-0 -\n":                           {0, api.Clear},
		one + "water 0-0-0 -,-\n":                         {0, api.Many},
		one + "water 0-0-0 ,\n":                           {0, api.Many},
		one + "water 0-0-0 x\n":                           {0, api.Form},
		one + "water 0-0-0 1-2-8\n":                       {0, api.Form},
		one + "water 0-0-0\n":                             {3, api.Form},
		one + "water 0-0-0 \n":                            {3, api.Form},
		one + "water 0-0-0 - -\n":                         {3, api.Form},
		one + "water  0-0-0 -\n":                          {3, api.Form},
		one + "water 0-0-? -\n":                           {3, api.Form},
		one + "water ?-0-0 -\n":                           {3, api.Form},
		one + "water - -\n":                               {3, api.Form},
		one + "water 64 -\n":                              {3, api.Form},
		one + "water 0-0-8 -\n":                           {3, api.Form},
		one + "water -1-0-0 -\n":                          {3, api.Form},
		one + "water 9-11-7 -\n":                          {0, api.Clear},
		one + "waters 0-0-0 -\n":                          {3, api.Form},
		one + "offsets 0-0-0 -\n":                         {3, api.Form},
		one + "station 0-0-0 -\n":                         {3, api.Form},
		one + "water 0-0-1 -\nwater 0-0-1 -\n":            {0, api.Turned},
		one + "water 0-0-1 -\nwater 0-0-0 -\n":            {0, api.Turned},
		one + "butt 0-0-1 -\nbutt 0-0-0 -\n":              {0, api.Turned},
		one + strings.Repeat("water 0-0-1 -\n", 3):        {0, api.Many},
		one + strings.Repeat("butt 0-0-1 -\n", 3):         {0, api.Many},
		one + "butt 0-0-1 -\nwater 0-0-1 -\n":             {4, api.Form},
		one + "water 0-0-1 -\nstation b\n":                {4, api.Form},
		one + "butt 0-0-1 -\nstation b\n":                 {4, api.Form},
		one + "butt 0-0-1 -\noffsets 0\n":                 {4, api.Form},
		head + "water 0-0-1 -\n":                          {0, api.Many},
		one + "water 0-0-1 ?-?-?\n":                       {0, api.Many},
		one + "water 0-0-1 \xff\n":                        {0, api.Form},
		one + "\xff\n":                                    {3, api.Form},
		one + "water 0-0-1 -\nbutt 0-0-1 -\nbutt x -":     {5, api.Form},
		one + "water 0-0-1 x\nbutt 0-0-1 -\nbutt 1 2":     {5, api.Form},
		strings.Repeat("\n", api.MaxText):                 {1, api.Form},
		strings.Repeat("\n", api.MaxText+1):               {0, api.Many},
		one + strings.Repeat("x", api.MaxText-len(one)):   {3, api.Form},
		one + strings.Repeat("x", api.MaxText-len(one)+1): {0, api.Many},
	} {
		b, line, s := offsets.Parse(text)
		if line != want.line || s != want.s || s != api.Clear && !reflect.DeepEqual(b, api.OffsetsTable{}) {
			t.Errorf("%.60q: %v %v %v", text, b, line, s)
		}
	}
}
