package strake_test

import (
	"math/rand"
	"slices"
	"testing"

	"ribband/api"
	"ribband/strake"
)

func TestP5_2Examples(t *testing.T) {
	b := parse(t, textS)
	if n, s := strake.Boats(b); n != 3 || s != api.Clear {
		t.Error(n, s)
	}
	if sure, s := strake.Sound(b); sure != api.Yes || s != api.Clear {
		t.Error(sure, s)
	}
	if l, s := strake.Girths(b, 0); !slices.Equal(l, []int{5, 6}) || s != api.Clear {
		t.Error(l, s)
	}
	for p, want := range map[[2]int]api.Span{{0, 0}: to(2, 3), {1, 1}: to(3, 4), {2, 0}: to(2, 4)} {
		if x, s := strake.Widths(b, p[0], p[1]); x != want || s != api.Clear {
			t.Error(p, x, s)
		}
	}
	if l, m, s := strake.Numbers(b); !slices.Equal(l, []int{2}) || !slices.Equal(m, []int{2}) || s != api.Clear {
		t.Error(l, m, s)
	}
}

// Marks leave fewer boats, or none.
func TestP5_2Known(t *testing.T) {
	const wide = "strake 2 2 4 1 99\ngirth 4..6\ngirth 5..7\n" // no 4, 7
	for i, x := range []struct {
		text            string
		boats           int
		sound           api.Sure
		first           []int
		width           api.Span // of the strake 0 at the frame 1
		surely, perhaps []int
		s, scant        api.Snag
	}{
		{textS, 3, api.Yes, []int{5, 6}, to(3, 4), []int{2}, []int{2}, api.Clear, api.Clear},
		{girthsS, 3, api.Yes, []int{5, 6}, to(3, 4), []int{2}, []int{2, 3}, api.Clear, api.Clear},
		{girthsS + "mark 0 1 1..20\n", 3, api.Yes, []int{5, 6}, to(3, 4), []int{2}, []int{2, 3}, api.Clear, api.Clear},
		{textS + "mark 1 0 4\n", 2, api.Open, []int{6}, one(4), nil, []int{2}, api.Clear, api.Clear},
		{textC, 0, api.No, nil, to(0, 0), nil, nil, api.Foul, api.Clear},
		{girthsS + "mark 1 0 5..9\n", 0, api.No, nil, to(0, 0), nil, nil, api.Foul, api.Clear},
		{girthsS + "mark 2 1 1\n", 0, api.No, nil, to(0, 0), nil, nil, api.Foul, api.Clear},                                     // one strake is too narrow
		{"strake 2 2 6 9 2\ngirth 6\ngirth 6\nmark 0 1 1\n", 0, api.No, nil, to(0, 0), []int{1}, []int{1}, api.Foul, api.Clear}, // its mark does not count with one
		{textN, 0, api.Open, nil, to(0, 0), nil, nil, api.Foul, api.Scant},
		{textO, 2, api.Open, []int{4, 5}, to(4, 5), nil, []int{1}, api.Clear, api.Clear},
		{wide, 8, api.Open, []int{4, 5, 6}, to(2, 4), nil, []int{2, 3}, api.Clear, api.Clear},
		{wide + "mark 0 0 2\nmark 0 1 2\n", 2, api.Open, []int{4}, to(2, 3), nil, []int{2, 3}, api.Clear, api.Clear},
		{wide + "mark 0 0 2\nmark 1 0 4\n", 0, api.No, nil, to(0, 0), nil, nil, api.Foul, api.Clear},
		{"strake 1 5 9 4 0\ngirth 5\ngirth 9\n", 1, api.Yes, []int{5}, one(9), []int{1}, []int{1}, api.Clear, api.Clear},
		{"strake 4 1 5 9 0\ngirth 4\ngirth 5\n", 1, api.Yes, []int{4}, to(1, 2), []int{1, 2, 3, 4}, []int{1, 2, 3, 4}, api.Clear, api.Clear},
		{"strake 1 1 1 9 0\ngirth 1..3\ngirth 1..3\n", 1, api.Open, []int{1}, one(1), nil, []int{1, 2, 3}, api.Clear, api.Clear},
		{"strake 1 1 1 9 0\ngirth 5\ngirth 5\n", 0, api.No, nil, to(0, 0), nil, nil, api.Foul, api.Clear},
	} {
		b := parse(t, x.text)
		if n, s := strake.Boats(b); n != x.boats || s != api.Clear {
			t.Error(i, "Boats", n, s)
		}
		if sure, s := strake.Sound(b); sure != x.sound || s != x.scant {
			t.Error(i, "Sound", sure, s)
		}
		if l, s := strake.Girths(b, 0); !slices.Equal(l, x.first) || s != x.s {
			t.Error(i, "Girths", l, s)
		}
		if w, s := strake.Widths(b, 1, 0); w != x.width || s != x.s {
			t.Error(i, "Widths", w, s)
		}
		if l, m, s := strake.Numbers(b); !slices.Equal(l, x.surely) || !slices.Equal(m, x.perhaps) || s != x.scant {
			t.Error(i, "Numbers", l, m, s)
		}
	}
}

func TestP5_2IsBoat(t *testing.T) {
	for i, x := range []struct {
		text   string
		girths []int
		is     bool
		s      api.Snag
	}{
		{textS, []int{6, 7, 7}, true, api.Clear},
		{textS, []int{6, 7, 6}, true, api.Clear},
		{textS, []int{5, 7, 7}, true, api.Clear},
		{textS, []int{5, 7, 6}, false, api.Clear}, // it has plans, but is not fair
		{textS, []int{7, 7, 7}, false, api.Clear}, // it has plans, but not of the spans
		{textS, []int{0, 0, 0}, false, api.Clear},
		{textO, []int{4, 5}, false, api.Clear}, // it is fair, but has no plan
		{textO, []int{5, 5}, true, api.Clear},
		{textC, []int{6, 7, 7}, false, api.Clear}, // marks are wrong
		{textN, []int{5, 7, 6}, false, api.Clear},
		{textS + "mark 1 0 4\n", []int{5, 7, 7}, false, api.Clear},
		{textS + "mark 1 0 4\n", []int{6, 7, 7}, true, api.Clear},
		{textS, []int{6, 7}, false, api.Many},
		{textS, nil, false, api.Many},
		{textS, []int{6, 7, 7, 7}, false, api.Many},
		{textS, []int{6, 7, 100}, false, api.Range},
		{textC, []int{6, 7, -1}, false, api.Range},
	} {
		if is, s := strake.IsBoat(parse(t, x.text), x.girths); is != x.is || s != x.s {
			t.Error(i, is, s)
		}
	}
}

func TestP5_2Absent(t *testing.T) {
	for _, text := range []string{textS, textC, textN} {
		b := parse(t, text)
		for _, frame := range []int{-1, 3, most, least} {
			if l, s := strake.Girths(b, frame); len(l) > 0 || s != api.Absent {
				t.Error(text, frame, l, s)
			}
		}
		for _, p := range [][2]int{{-1, 0}, {3, 0}, {0, -1}, {0, 2}, {most, most}, {least, least}, {1, most}, {least, 1}} {
			if x, s := strake.Widths(b, p[0], p[1]); x != to(0, 0) || s != api.Absent {
				t.Error(text, p, x, s)
			}
		}
	}
}

func TestP5_2Everything(t *testing.T) {
	snags, sures, surely, perhaps := map[api.Snag]int{}, map[api.Sure]int{}, map[int]int{}, map[int]int{}
	eachBook(t, 700, func(t *testing.T, b api.StrakeBook, o *oracle, r *rand.Rand) {
		want, scant := o.snag(), o.scant()
		snags[want]++
		snags[scant]++
		if n, s := strake.Boats(b); n != len(o.boats) || s != api.Clear {
			t.Error("Boats", n, s, len(o.boats))
		}
		sure := sound(b, o.fair)
		if scant == api.Clear {
			sures[sure]++
		}
		if v, s := strake.Sound(b); v != sure || s != scant {
			t.Error("Sound", v, s, sure)
		}
		for frame := range b.Girths {
			if l, s := strake.Girths(b, frame); !slices.Equal(l, o.girths(frame)) || s != want {
				t.Error("Girths", frame, l, s)
			}
			for n := range b.Strakes {
				if x, s := strake.Widths(b, frame, n); x != o.widths(frame, n) || s != want {
					t.Error("Widths", frame, n, x, s, o.widths(frame, n))
				}
			}
		}
		some, more := o.numbers()
		surely[len(some)]++
		perhaps[len(more)]++
		if l, m, s := strake.Numbers(b); !slices.Equal(l, some) || !slices.Equal(m, more) || s != scant {
			t.Error("Numbers", l, m, s, some, more)
		}
		for range 4 {
			g := randomGirths(r, b)
			if len(o.fair) > 0 && r.Intn(2) == 0 {
				g = o.fair[r.Intn(len(o.fair))]
			}
			if is, s := strake.IsBoat(b, g); is != o.has(g) || s != api.Clear {
				t.Error("IsBoat", g, is, s)
			}
		}
	})
	if snags[api.Foul] < 100 || snags[api.Scant] < 10 || sures[api.Yes] < 80 || sures[api.Open] < 80 || sures[api.No] < 80 || surely[2] < 5 || perhaps[2] < 20 {
		t.Error("the books are too much alike", snags, sures, surely, perhaps)
	}
}

// A book of the greatest size: each of 81 lists of girths is a boat.
func TestGreatestBook(t *testing.T) {
	b := api.StrakeBook{Strakes: 4, Least: 16, Most: 20, Taper: 9, Bend: 99, Girths: slices.Repeat([]api.Span{to(71, 73)}, 4)}
	if n, s := strake.Boats(b); n != 81 || s != api.Clear {
		t.Error(n, s)
	}
	if sure, s := strake.Sound(b); sure != api.Yes || s != api.Clear {
		t.Error(sure, s)
	}
	if x, s := strake.Widths(b, 3, 3); x != to(16, 20) || s != api.Clear {
		t.Error(x, s)
	}
	if l, m, s := strake.Numbers(b); !slices.Equal(l, []int{4}) || !slices.Equal(m, []int{4}) || s != api.Clear {
		t.Error(l, m, s)
	}
	if frame, left, s := strake.Ask(b); frame != 0 || left != 27 || s != api.Clear {
		t.Error(frame, left, s)
	}
	b.Marks = []api.StrakeMark{mark(0, 0, one(16)), mark(0, 1, one(16)), mark(0, 2, to(0, 18))}
	if n, s := strake.Boats(b); n != 0 || s != api.Clear { // 71 would need 21
		t.Error(n, s)
	}
	if l, s := strake.Clash(b); !slices.Equal(l, []int{0, 1, 2}) || s != api.Clear {
		t.Error(l, s)
	}
	b.Marks[2].Width = to(0, 19)
	if l, s := strake.Girths(b, 0); !slices.Equal(l, []int{71}) || s != api.Clear {
		t.Error(l, s)
	}
	if x, s := strake.Widths(b, 0, 3); x != one(20) || s != api.Clear {
		t.Error(x, s)
	}
}

// Whatever girths and plan there really are, marks that are right about them leave them a boat, and all that is told is so.
func TestP5_5WhateverTheGirthsAre(t *testing.T) {
	tried := 0
	eachBook(t, 120, func(t *testing.T, b api.StrakeBook, o *oracle, r *rand.Rand) {
		for i, g := range o.boats {
			tried++
			tellsRight(t, b, g, o.plans[i][r.Intn(len(o.plans[i]))])
		}
		b.Marks = nil
		for _, g := range o.fair {
			if plans := plansOf(b, g); len(plans) > 0 {
				p := plans[r.Intn(len(plans))]
				x := clone(b)
				for range r.Intn(api.MaxStrakeMarks + 1) {
					x.Marks = append(x.Marks, markAbout(r, p))
				}
				tried++
				tellsRight(t, x, g, p)
			}
		}
	})
	if tried < 400 {
		t.Error("too few boats", tried)
	}
}

// tellsRight tests that all that a book tells is so of girths that are one of its boats, and a plan of them.
func tellsRight(t *testing.T, b api.StrakeBook, g []int, p [][]int) {
	t.Helper()
	if is, s := strake.IsBoat(b, g); !is || s != api.Clear {
		t.Error("IsBoat", b, g, is, s)
	}
	if is, s := strake.IsPlan(b, g, p); !is || s != api.Clear {
		t.Error("IsPlan", b, g, p, is, s)
	}
	if n, s := strake.Boats(b); n < 1 || s != api.Clear {
		t.Error("Boats", b, g, n, s)
	}
	if n, s := strake.Plans(b, g); n < 1 || s != api.Clear {
		t.Error("Plans", b, g, n, s)
	}
	if sure, s := strake.Sound(b); sure == api.No || s != api.Clear {
		t.Error("Sound", b, g, sure, s)
	}
	for frame, girth := range g {
		if list, _ := strake.Girths(b, frame); !slices.Contains(list, girth) {
			t.Error("Girths", b, g, frame, list)
		}
		for n, width := range p[frame] {
			if x, s := strake.Widths(b, frame, n); !isIn(x, width) || s != api.Clear {
				t.Error("Widths", b, g, p, frame, n, x, s)
			}
		}
	}
	surely, perhaps, _ := strake.Numbers(b)
	for _, n := range surely {
		if many, s := strake.Plans(withStrakes(b, n), g); many < 1 || s != api.Clear {
			t.Error("Numbers", b, g, n, many, s)
		}
	}
	if !slices.Contains(perhaps, b.Strakes) {
		t.Error("Numbers", b, g, perhaps)
	}
	if list, s := strake.Clash(b); len(list) > 0 || s != api.Clear {
		t.Error("Clash", b, g, list, s)
	}
}

// A girth is told just if a boat has it; both ends of Widths are in a plan.
func TestP5_7NoOthers(t *testing.T) {
	tried := 0
	eachBook(t, 400, func(t *testing.T, b api.StrakeBook, o *oracle, r *rand.Rand) {
		if len(o.boats) == 0 {
			return
		}
		for frame, x := range b.Girths {
			list, _ := strake.Girths(b, frame)
			for girth := max(x.Low-1, 0); girth <= min(x.High+1, api.MaxStrakeGirth); girth++ {
				_, s := strake.Measure(b, frame, one(girth))
				if has := slices.Contains(list, girth); has != (o.count(frame, girth) > 0) || has != (s == api.Clear) {
					t.Error("Girths", frame, girth, list, s)
				}
			}
			for n := range b.Strakes {
				w, _ := strake.Widths(b, frame, n)
				for _, width := range []int{w.Low, w.High} {
					tried++
					if !o.hasWidth(frame, n, width) {
						t.Error("Widths", frame, n, w)
					}
				}
			}
		}
	})
	if tried < 1000 {
		t.Error("too few widths", tried)
	}
}

// hasWidth tells whether a strake has a width at a frame, in a plan of a boat.
func (o *oracle) hasWidth(frame, strake, width int) bool {
	return slices.ContainsFunc(slices.Concat(o.plans...), func(p [][]int) bool { return p[frame][strake] == width })
}
