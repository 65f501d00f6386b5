package batten_test

import (
	"reflect"
	"strings"
	"testing"

	"ribband/api"
	"ribband/batten"
)

func TestP2_4Printed(t *testing.T) {
	b := api.BattenBook{
		Bend: 3, Twist: 0, Turns: 5,
		Marks: []api.Span{to(10, 10), to(12, 13), to(957, 959)},
		Rules: rules(api.BattenRule{A: 0, B: 2, Rise: to(-959, 959)}, api.BattenRule{A: 1, B: 2, Rise: one(-4)}, api.BattenRule{A: 0, B: 1, Rise: to(-4, -2)}),
	}
	const text = "batten 3 0 5\nmark 10\nmark 12..13\nmark 957..959\nrule 0 2 -959..959\nrule 1 2 -4\nrule 0 1 -4..-2\n"
	if got, s := batten.Print(b); got != text || s != api.Clear {
		t.Error(got, s)
	}
	if got := parse(t, text); !reflect.DeepEqual(got, b) {
		t.Error(got)
	}
	for _, text := range []string{textB, textC, textNone, textOpen} {
		if got := printed(t, parse(t, text)); got != text {
			t.Error(got)
		}
	}
	b.Bend = 100
	if got, s := batten.Print(b); got != "" || s != api.Range {
		t.Error(got, s)
	}
}

func TestP2_4Lines(t *testing.T) {
	const head, three = "batten 1 2 3\n", "batten 1 2 3\nmark 4\nmark 4\nmark 4\n"
	for text, want := range map[string]struct {
		line int
		s    api.Snag
	}{
		"":                                    {0, api.Form},
		"\n":                                  {1, api.Form},
		"\n" + three:                          {1, api.Form},
		head:                                  {0, api.Many},
		head + "mark 4\nmark 4\n":             {0, api.Many},
		three:                                 {0, api.Clear},
		strings.TrimSuffix(three, "\n"):       {0, api.Clear},
		three + "\n":                          {5, api.Form},
		three + "\n\n":                        {5, api.Form},
		three + head:                          {5, api.Form},
		head + head:                           {2, api.Form},
		"mark 4\n" + three:                    {1, api.Form},
		"rule 0 1 0\n":                        {1, api.Form},
		"battens 1 2 3\n":                     {1, api.Form},
		"Batten 1 2 3\n":                      {1, api.Form},
		"batten\n":                            {1, api.Form},
		"batten 1 2\n":                        {1, api.Form},
		"batten 1 2 \n":                       {1, api.Form},
		"batten 1 2 3 4\n":                    {1, api.Form},
		"batten 1 2 3 \n":                     {1, api.Form},
		" batten 1 2 3\n":                     {1, api.Form},
		"batten 1  2 3\n":                     {1, api.Form},
		"batten\t1 2 3\n":                     {1, api.Form},
		"batten 1 2 3\r\n":                    {1, api.Form},
		"batten x 2 3\n":                      {1, api.Form},
		"batten 1 x 3\n":                      {1, api.Form},
		"batten 1 2 x\n":                      {1, api.Form},
		"batten 01 2 3\n":                     {1, api.Form},
		"batten 1 +2 3\n":                     {1, api.Form},
		"batten 1 2 -0\n":                     {1, api.Form},
		"batten 1 2 1..3\n":                   {1, api.Form},
		"batten 1 2 1000000000\n":             {1, api.Form},
		"batten -1 2 3\n":                     {0, api.Range},
		"batten 1 2 999999999\n":              {0, api.Range},
		"batten 1 -999999999 3\n":             {0, api.Range},
		three + "mark 4..6\n":                 {0, api.Clear},
		three + "mark 4..4\n":                 {5, api.Form},
		three + "mark 6..4\n":                 {0, api.Range},
		three + "mark 4..7\n":                 {0, api.Range},
		three + "mark -1\n":                   {0, api.Range},
		three + "mark 960\n":                  {0, api.Range},
		three + "mark\n":                      {5, api.Form},
		three + "mark \n":                     {5, api.Form},
		three + "mark 4 5\n":                  {5, api.Form},
		three + "mark 4 \n":                   {5, api.Form},
		three + "mark 4..\n":                  {5, api.Form},
		three + "mark ..4\n":                  {5, api.Form},
		three + "mark 4.5\n":                  {5, api.Form},
		three + "mark 04\n":                   {5, api.Form},
		three + "mark x\n":                    {5, api.Form},
		three + "marks 4\n":                   {5, api.Form},
		three + "mark 4\xff\n":                {5, api.Form},
		three + "rule 0 1 0\n":                {0, api.Clear},
		three + "rule 0 1 -2..0\n":            {0, api.Clear},
		three + "rule 0 3 0\n":                {0, api.Absent},
		three + "rule -1 1 0\n":               {0, api.Absent},
		three + "rule 1 1 0\n":                {0, api.Turned},
		three + "rule 0 1 -960..0\n":          {0, api.Range},
		three + "rule 0 1 2..1\n":             {0, api.Range},
		three + "rule 0 1 -0\n":               {5, api.Form},
		three + "rule 0 1\n":                  {5, api.Form},
		three + "rule 0 1 0 0\n":              {5, api.Form},
		three + "rule x 1 0\n":                {5, api.Form},
		three + "rule 0 x 0\n":                {5, api.Form},
		three + "rule 0 1 x\n":                {5, api.Form},
		three + "rule 0 1..2 0\n":             {5, api.Form},
		three + "rule 0 1 1..1\n":             {5, api.Form},
		three + "rules 0 1 0\n":               {5, api.Form},
		three + "rule 0 1 0\nmark 4\n":        {6, api.Form},
		three + "rule 0 1 0\n" + head:         {6, api.Form},
		head + "rule 0 1 0\n":                 {0, api.Many},
		head + "rule 0 1 0\nmark 4\n":         {3, api.Form},
		head + "rule 0 1 0\nrule x\n":         {3, api.Form},
		three + strings.Repeat("mark 4\n", 5): {0, api.Many},
		three + strings.Repeat("mark 4\n", 5) + "x\n":         {10, api.Form}, // the form of all lines comes before the book's snag
		three + strings.Repeat("rule 0 1 0\n", 4):             {0, api.Clear},
		three + strings.Repeat("rule 0 1 0\n", 5):             {0, api.Many},
		strings.Repeat("\n", api.MaxText):                     {1, api.Form},
		strings.Repeat("\n", api.MaxText+1):                   {0, api.Many},
		three + strings.Repeat("x", api.MaxText-len(three)):   {5, api.Form},
		three + strings.Repeat("x", api.MaxText-len(three)+1): {0, api.Many},
	} {
		b, line, s := batten.Parse(text)
		if line != want.line || s != want.s || s != api.Clear && !reflect.DeepEqual(b, api.BattenBook{}) {
			t.Errorf("%.60q: %v %v %v", text, b, line, s)
		}
	}
}
