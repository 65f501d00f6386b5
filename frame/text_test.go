package frame_test

import (
	"reflect"
	"strings"
	"testing"

	"ribband/api"
	"ribband/frame"
)

func TestP3_4Printed(t *testing.T) {
	b := api.FrameBook{
		Plank:  20,
		Points: []api.FramePoint{{Height: 0, Breadth: to(0, 2)}, {Height: 10, Breadth: one(0)}, {Height: 959, Breadth: to(957, 959)}},
		Tapes:  tapes(api.FrameTape{From: 0, To: 2, Girth: to(0, 9999)}, api.FrameTape{From: 1, To: 2, Girth: one(7)}),
		Sticks: sticks(api.FrameStick{Height: 959, Long: 0, Fits: true}, api.FrameStick{Height: 0, Long: 959}),
	}
	const text = "frame 20\npoint 0 0..2\npoint 10 0\npoint 959 957..959\ntape 0 2 0..9999\ntape 1 2 7\nstick 959 0 fits\nstick 0 959 not\n"
	if got, s := frame.Print(b); got != text || s != api.Clear {
		t.Error(got, s)
	}
	if got := parse(t, text); !reflect.DeepEqual(got, b) {
		t.Error(got)
	}
	for _, text := range []string{textF, textC, pointsF, pointsF + "stick 4 7 not\n"} {
		if got := printed(t, parse(t, text)); got != text {
			t.Error(got)
		}
	}
	b.Plank = 21
	if got, s := frame.Print(b); got != "" || s != api.Range {
		t.Error(got, s)
	}
}

func TestP3_4Lines(t *testing.T) {
	const head, two = "frame 2\n", "frame 2\npoint 0 3\npoint 4 6\n"
	for text, want := range map[string]struct {
		line int
		s    api.Snag
	}{
		"":                                         {0, api.Form},
		"\n":                                       {1, api.Form},
		"\n" + two:                                 {1, api.Form},
		head:                                       {0, api.Many},
		head + "point 0 3\n":                       {0, api.Many},
		two:                                        {0, api.Clear},
		strings.TrimSuffix(two, "\n"):              {0, api.Clear},
		two + "\n":                                 {4, api.Form},
		two + "\n\n":                               {4, api.Form},
		two + head:                                 {4, api.Form},
		head + head:                                {2, api.Form},
		"point 0 3\n" + two:                        {1, api.Form},
		"tape 0 1 5\n":                             {1, api.Form},
		"stick 0 1 fits\n":                         {1, api.Form},
		"frames 2\n":                               {1, api.Form},
		"Frame 2\n":                                {1, api.Form},
		"frame\n":                                  {1, api.Form},
		"frame \n":                                 {1, api.Form},
		"frame 2 \n":                               {1, api.Form},
		"frame 2 2\n":                              {1, api.Form},
		" frame 2\n":                               {1, api.Form},
		"frame  2\n":                               {1, api.Form},
		"frame\t2\n":                               {1, api.Form},
		"frame 2\r\n":                              {1, api.Form},
		"frame x\n":                                {1, api.Form},
		"frame 02\n":                               {1, api.Form},
		"frame +2\n":                               {1, api.Form},
		"frame -0\n":                               {1, api.Form},
		"frame 1..2\n":                             {1, api.Form},
		"frame 1000000000\n":                       {1, api.Form},
		"frame -1\n":                               {0, api.Range},
		"frame 999999999\n":                        {0, api.Range},
		two + "point 5 6..8\n":                     {0, api.Clear},
		two + "point 5 6..6\n":                     {4, api.Form},
		two + "point 5 8..6\n":                     {0, api.Range},
		two + "point 5 6..9\n":                     {0, api.Range},
		two + "point 5 -1\n":                       {0, api.Range},
		two + "point 5 960\n":                      {0, api.Range},
		two + "point 4 6\n":                        {0, api.Turned},
		two + "point 960 6\n":                      {0, api.Range},
		two + "point -5 6\n":                       {0, api.Range},
		two + "point\n":                            {4, api.Form},
		two + "point 5\n":                          {4, api.Form},
		two + "point 5 \n":                         {4, api.Form},
		two + "point 5 6 7\n":                      {4, api.Form},
		two + "point 5 6 \n":                       {4, api.Form},
		two + "point 5..6 6\n":                     {4, api.Form},
		two + "point x 6\n":                        {4, api.Form},
		two + "point 5 x\n":                        {4, api.Form},
		two + "point 05 6\n":                       {4, api.Form},
		two + "point 5 06\n":                       {4, api.Form},
		two + "point 5 6..\n":                      {4, api.Form},
		two + "point 5 ..6\n":                      {4, api.Form},
		two + "point 5 6.7\n":                      {4, api.Form},
		two + "point 5 6\xff\n":                    {4, api.Form},
		two + "points 5 6\n":                       {4, api.Form},
		two + "tape 0 1 5\n":                       {0, api.Clear},
		two + "tape 0 1 9..8\n":                    {0, api.Range},
		two + "tape 0 1 10000\n":                   {0, api.Range},
		two + "tape 0 2 5\n":                       {0, api.Absent},
		two + "tape -1 1 5\n":                      {0, api.Absent},
		two + "tape 1 1 5\n":                       {0, api.Turned},
		two + "tape 0 1\n":                         {4, api.Form},
		two + "tape 0 1 5 6\n":                     {4, api.Form},
		two + "tape x 1 5\n":                       {4, api.Form},
		two + "tape 0 x 5\n":                       {4, api.Form},
		two + "tape 0 1 x\n":                       {4, api.Form},
		two + "tape 0 1..2 5\n":                    {4, api.Form},
		two + "tape 0 1 5..5\n":                    {4, api.Form},
		two + "tapes 0 1 5\n":                      {4, api.Form},
		two + "stick 0 1 fits\n":                   {0, api.Clear},
		two + "stick 4 9 not\n":                    {0, api.Clear},
		two + "stick 0 1 fit\n":                    {4, api.Form},
		two + "stick 0 1 Not\n":                    {4, api.Form},
		two + "stick 0 1 1\n":                      {4, api.Form},
		two + "stick 0 1\n":                        {4, api.Form},
		two + "stick 0 1 \n":                       {4, api.Form},
		two + "stick 0 1 fits not\n":               {4, api.Form},
		two + "stick 0 1 fits \n":                  {4, api.Form},
		two + "stick x 1 fits\n":                   {4, api.Form},
		two + "stick 0 x fits\n":                   {4, api.Form},
		two + "stick 0..1 1 fits\n":                {4, api.Form},
		two + "stick 0 1..2 fits\n":                {4, api.Form},
		two + "stick 5 1 fits\n":                   {0, api.Range},
		two + "stick 0 960 not\n":                  {0, api.Range},
		two + "sticks 0 1 fits\n":                  {4, api.Form},
		two + "tape 0 1 5\npoint 5 6\n":            {5, api.Form},
		two + "stick 0 1 not\npoint 5 6\n":         {5, api.Form},
		two + "stick 0 1 not\ntape 0 1 5\n":        {5, api.Form},
		two + "tape 0 1 5\n" + head:                {5, api.Form},
		two + "tape 0 1 5\nstick 0 1 fits\n":       {0, api.Clear},
		two + "tape 0 1\nstick 0 1\n":              {4, api.Form},
		head + "tape 0 1 5\n":                      {0, api.Many},
		head + "stick 0 1 fits\n":                  {0, api.Many},
		"frame 21\n":                               {0, api.Range},
		two + strings.Repeat("point 4 6\n", 4):     {0, api.Many},
		two + strings.Repeat("tape 0 1 5\n", 3):    {0, api.Clear},
		two + strings.Repeat("tape 0 1 5\n", 4):    {0, api.Many},
		two + strings.Repeat("stick 0 1 not\n", 3): {0, api.Clear},
		two + strings.Repeat("stick 0 1 not\n", 4): {0, api.Many},
		two + strings.Repeat("point 4 6\n", 4) + "x\n":    {8, api.Form}, // the form of all lines comes before the book's snag
		strings.Repeat("\n", api.MaxText):                 {1, api.Form},
		strings.Repeat("\n", api.MaxText+1):               {0, api.Many},
		two + strings.Repeat("x", api.MaxText-len(two)):   {4, api.Form},
		two + strings.Repeat("x", api.MaxText-len(two)+1): {0, api.Many},
	} {
		b, line, s := frame.Parse(text)
		if line != want.line || s != want.s || s != api.Clear && !reflect.DeepEqual(b, api.FrameBook{}) {
			t.Errorf("%.60q: %v %v %v", text, b, line, s)
		}
	}
}
