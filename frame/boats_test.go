package frame_test

import (
	"math/rand"
	"slices"
	"testing"

	"ribband/api"
	"ribband/frame"
)

func TestP3_2Examples(t *testing.T) {
	f := parse(t, textF)
	if n, s := frame.Boats(f); n != 4 || s != api.Clear {
		t.Error(n, s)
	}
	for point, want := range [][]int{{3}, {6, 7}, {12, 13}} {
		if l, s := frame.Breadths(f, point); !slices.Equal(l, want) || s != api.Clear {
			t.Error(point, l, s)
		}
	}
	if x, s := frame.Between(f, 8); x != to(9, 10) || s != api.Clear {
		t.Error(x, s)
	}
	if x, s := frame.Girths(f, 1, 2); x != to(9, 10) || s != api.Clear {
		t.Error(x, s)
	}
	if x, s := frame.Areas(f); x != to(180, 200) || s != api.Clear {
		t.Error(x, s)
	}
	for long, want := range map[int]api.Sure{10: api.Open, 9: api.Yes, 11: api.No} {
		if sure, s := frame.Clears(f, 8, long); sure != want || s != api.Clear {
			t.Error(long, sure, s)
		}
	}
	if l, n, s := frame.Leanest(f); !slices.Equal(l, []int{3, 6, 12}) || n != 180 || s != api.Clear {
		t.Error(l, n, s)
	}
}

// Tapes and sticks leave fewer boats, or none.
func TestP3_2Known(t *testing.T) {
	for i, x := range []struct {
		text    string
		boats   int
		one     []int
		between api.Span // at 8
		girths  api.Span // of all
		areas   api.Span
		ten     api.Sure // at 8
		lean    []int
		area    int
		s       api.Snag
	}{
		{pointsF, 4, []int{6, 7}, to(9, 10), to(14, 15), to(180, 200), api.Open, []int{3, 6, 12}, 180, api.Clear},
		{pointsF + "tape 1 2 10\n", 3, []int{6, 7}, to(9, 10), one(15), to(180, 200), api.Open, []int{3, 6, 12}, 180, api.Clear},
		{pointsF + "tape 0 2 14\n", 1, []int{7}, one(9), one(14), one(192), api.No, []int{3, 7, 12}, 192, api.Clear},
		{pointsF + "stick 8 10 fits\n", 1, []int{7}, one(10), one(15), one(200), api.Yes, []int{3, 7, 13}, 200, api.Clear},
		{pointsF + "stick 8 10 not\n", 3, []int{6, 7}, one(9), to(14, 15), to(180, 192), api.No, []int{3, 6, 12}, 180, api.Clear},
		{pointsF + "stick 12 13 fits\nstick 4 7 not\n", 1, []int{6}, one(9), one(15), one(188), api.No, []int{3, 6, 13}, 188, api.Clear},
		{pointsF + "tape 0 2 14\nstick 4 7 not\n", 0, nil, to(0, 0), to(0, 0), to(0, 0), api.Open, nil, 0, api.Foul},
		{textC, 0, nil, to(0, 0), to(0, 0), to(0, 0), api.Open, nil, 0, api.Foul},
	} {
		b := parse(t, x.text)
		if n, s := frame.Boats(b); n != x.boats || s != api.Clear {
			t.Error(i, "Boats", n, s)
		}
		if l, s := frame.Breadths(b, 1); !slices.Equal(l, x.one) || s != x.s {
			t.Error(i, "Breadths", l, s)
		}
		if v, s := frame.Between(b, 8); v != x.between || s != x.s {
			t.Error(i, "Between", v, s)
		}
		if v, s := frame.Girths(b, 0, 2); v != x.girths || s != x.s {
			t.Error(i, "Girths", v, s)
		}
		if v, s := frame.Areas(b); v != x.areas || s != x.s {
			t.Error(i, "Areas", v, s)
		}
		if v, s := frame.Clears(b, 8, 10); v != x.ten || s != x.s {
			t.Error(i, "Clears", v, s)
		}
		if l, n, s := frame.Leanest(b); !slices.Equal(l, x.lean) || n != x.area || s != x.s {
			t.Error(i, "Leanest", l, n, s)
		}
	}
}

// The area decides; of several boats with the least one the least list is returned.
func TestP3_2Leanest(t *testing.T) {
	for i, x := range []struct {
		text  string
		boats int
		want  []int
		area  int
	}{
		{"frame 0\npoint 0 6..8\npoint 4 5\npoint 8 6..8\ntape 0 2 9\n", 4, []int{6, 5, 8}, 96}, // as lean as 8, 5, 6
		{"frame 0\npoint 0 6..8\npoint 3 5\npoint 8 7..9\ntape 0 2 9\n", 4, []int{8, 5, 7}, 99}, // leaner than 6, 5, 9
	} {
		b := parse(t, x.text)
		if n, s := frame.Boats(b); n != x.boats || s != api.Clear {
			t.Error(i, n, s)
		}
		if l, n, s := frame.Leanest(b); !slices.Equal(l, x.want) || n != x.area || s != api.Clear {
			t.Error(i, l, n, s)
		}
	}
}

func TestP3_2Everything(t *testing.T) {
	snags, sures := map[api.Snag]int{}, map[api.Sure]int{}
	eachBook(t, 600, func(t *testing.T, b api.FrameBook, o *oracle, r *rand.Rand) {
		want := o.snag()
		snags[want]++
		if n, s := frame.Boats(b); n != len(o.boats) || s != api.Clear {
			t.Error("Boats", n, s, len(o.boats))
		}
		for point := range b.Points {
			if l, s := frame.Breadths(b, point); !slices.Equal(l, o.breadths(point)) || s != want {
				t.Error("Breadths", point, l, s)
			}
		}
		for _, height := range heights(r, b) {
			x, s := frame.Between(b, height)
			if x != o.between(height) || s != want {
				t.Error("Between", height, x, s)
			}
			long := min(max(x.Low+r.Intn(4)-1, 0), api.MaxFrameMeasure)
			sure := o.clears(height, long)
			if want == api.Clear {
				sures[sure]++
			}
			if v, s := frame.Clears(b, height, long); v != sure || s != want {
				t.Error("Clears", height, long, v, s, sure)
			}
		}
		eachStretch(b, func(from, to int) {
			if x, s := frame.Girths(b, from, to); x != o.girths(from, to) || s != want {
				t.Error("Girths", from, to, x, s)
			}
		})
		if x, s := frame.Areas(b); x != o.areas() || s != want {
			t.Error("Areas", x, s)
		}
		if l, n, s := frame.Leanest(b); !slices.Equal(l, o.leanest()) || n != o.areas().Low || s != want {
			t.Error("Leanest", l, n, s)
		}
	})
	if snags[api.Clear] < 100 || snags[api.Foul] < 100 || sures[api.Yes] < 50 || sures[api.No] < 50 || sures[api.Open] < 50 {
		t.Error("the books are too much alike", snags, sures)
	}
}

// A book of the greatest size: each of 243 lists of breadths is a boat.
func TestGreatestBook(t *testing.T) {
	b := api.FrameBook{Plank: api.MaxFramePlank}
	for i := range api.MaxFramePoints {
		b.Points = append(b.Points, api.FramePoint{Height: 955 + i, Breadth: to(957, 959)})
	}
	for range api.MaxFrameTapes {
		b.Tapes = append(b.Tapes, api.FrameTape{From: 0, To: 4, Girth: to(0, api.MaxFrameGirth)})
	}
	for range api.MaxFrameSticks {
		b.Sticks = append(b.Sticks, api.FrameStick{Height: 959, Long: 957, Fits: true})
	}
	if n, s := frame.Boats(b); n != 243 || s != api.Clear {
		t.Error(n, s)
	}
	if x, s := frame.Areas(b); x != to(8*957, 8*959) || s != api.Clear {
		t.Error(x, s)
	}
	if x, s := frame.Girths(b, 0, 4); x != to(4, 8) || s != api.Clear {
		t.Error(x, s)
	}
	if point, left, s := frame.Ask(b); point != 0 || left != 81 || s != api.Clear {
		t.Error(point, left, s)
	}
	b.Sticks[2].Fits = false
	if tapes, sticks, s := frame.Clash(b); len(tapes) > 0 || !slices.Equal(sticks, []int{2}) || s != api.Clear {
		t.Error(tapes, sticks, s)
	}
	wide := api.FrameBook{}
	for i := range api.MaxFramePoints {
		wide.Points = append(wide.Points, api.FramePoint{Height: i * 239, Breadth: one(i % 2 * api.MaxFrameMeasure)})
	}
	if x, s := frame.Girths(wide, 0, 4); x != one(4*988) || s != api.Clear { // 988 times itself is 976144
		t.Error(x, s)
	}
}

func TestP3_5WhateverSheIs(t *testing.T) {
	eachBook(t, 150, func(t *testing.T, b api.FrameBook, o *oracle, r *rand.Rand) {
		for _, l := range o.boats[:min(len(o.boats), 10)] {
			tellsRight(t, r, b, l)
		}
		// tapes and sticks that are right about a frame leave it a boat
		for range 3 {
			l := o.ways[r.Intn(len(o.ways))]
			x := clone(b)
			x.Tapes, x.Sticks = nil, nil
			for range r.Intn(api.MaxFrameTapes + 1) {
				x.Tapes = append(x.Tapes, tapeAbout(r, b, l))
			}
			for range r.Intn(api.MaxFrameSticks + 1) {
				height := someHeight(r, b)
				x.Sticks = append(x.Sticks, stickAbout(r, height, at(b, l, height)))
			}
			tellsRight(t, r, x, l)
		}
	})
}

// tapeAbout returns a tape that is right about a frame.
func tapeAbout(r *rand.Rand, b api.FrameBook, l []int) api.FrameTape {
	from := r.Intn(len(l) - 1)
	to := from + 1 + r.Intn(len(l)-from-1)
	n := girth(b, l, from, to)
	return api.FrameTape{From: from, To: to, Girth: api.Span{Low: n - r.Intn(2), High: n + r.Intn(2)}}
}

// Both ends of each span are those of a boat, and what is open is so in one and not in another one.
func TestP3_6NoOthers(t *testing.T) {
	opens := 0
	eachBook(t, 150, func(t *testing.T, b api.FrameBook, o *oracle, r *rand.Rand) {
		if len(o.boats) == 0 {
			return
		}
		among := func(what string, x api.Span, question func(l []int) int) {
			answers := o.answers(question)
			if !slices.Contains(answers, x.Low) || !slices.Contains(answers, x.High) {
				t.Error(what, x, answers)
			}
		}
		for _, height := range heights(r, b) {
			x, _ := frame.Between(b, height)
			breadth := func(l []int) int { return at(b, l, height) }
			among("Between", x, breadth)
			for long := max(x.Low-1, 0); long <= min(x.High+1, api.MaxFrameMeasure); long++ {
				fits := func(l []int) bool { return breadth(l) >= long }
				misses := func(l []int) bool { return breadth(l) < long }
				one, two := slices.ContainsFunc(o.boats, fits), slices.ContainsFunc(o.boats, misses)
				sure, _ := frame.Clears(b, height, long)
				if (sure == api.Open) != (one && two) || sure == api.Yes && two || sure == api.No && one {
					t.Error("Clears", height, long, sure, one, two)
				}
				if sure == api.Open {
					opens++
				}
			}
		}
		eachStretch(b, func(from, to int) {
			x, _ := frame.Girths(b, from, to)
			among("Girths", x, func(l []int) int { return girth(b, l, from, to) })
		})
		x, _ := frame.Areas(b)
		among("Areas", x, func(l []int) int { return area(b, l) })
		for point := range b.Points {
			l, _ := frame.Breadths(b, point)
			for _, breadth := range l {
				if o.count(point, breadth) == 0 {
					t.Error("Breadths", point, breadth)
				}
			}
		}
		l, n, _ := frame.Leanest(b)
		if is, s := frame.IsBoat(b, l); !is || s != api.Clear || n != area(b, l) {
			t.Error("Leanest", l, n, is, s)
		}
	})
	if opens < 100 {
		t.Error("too little is open", opens)
	}
}

// A frame whose points are all broader is nowhere told to be less broad, and has no less area.
func TestP3_10BroaderBooks(t *testing.T) {
	eachBook(t, 150, func(t *testing.T, b api.FrameBook, o *oracle, r *rand.Rand) {
		b = clone(b)
		b.Tapes, b.Sticks = nil, nil
		broad := clone(b)
		for i := range broad.Points {
			x := &broad.Points[i].Breadth
			n := min(r.Intn(3), api.MaxFrameMeasure-x.High)
			*x = to(x.Low+n, x.High+n)
		}
		for _, height := range heights(r, b) {
			one, _ := frame.Between(b, height)
			if two, s := frame.Between(broad, height); two.Low < one.Low || two.High < one.High || s != api.Clear {
				t.Error("Between", broad, height, one, two, s)
			}
		}
		one, _ := frame.Areas(b)
		if two, s := frame.Areas(broad); two.Low < one.Low || two.High < one.High || s != api.Clear {
			t.Error("Areas", broad, one, two, s)
		}
	})
}
