package bevel_test

import (
	"math/rand"
	"slices"
	"testing"

	"ribband/api"
	"ribband/bevel"
)

func TestP8_2Examples(t *testing.T) {
	b := parse(t, textE)
	if n, s := bevel.Boats(b); n != 4 || s != api.Clear {
		t.Error(n, s)
	}
	if l, s := bevel.Offsets(b, 1); !slices.Equal(l, list(12, 13)) || s != api.Clear {
		t.Error(l, s)
	}
	if l, s := bevel.At(b, 0); !slices.Equal(l, list(2, 4)) || s != api.Clear {
		t.Error(l, s)
	}
	if l, s := bevel.At(b, 2); !slices.Equal(l, list(0, 1)) || s != api.Clear {
		t.Error(l, s)
	}
	if sure, s := bevel.Stands(b, 0); sure != api.Yes || s != api.Clear {
		t.Error(sure, s)
	}
	if sure, s := bevel.Stands(b, 2); sure != api.Open || s != api.Clear {
		t.Error(sure, s)
	}
	if sure, s := bevel.Alike(b, 0, 1); sure != api.Open || s != api.Clear {
		t.Error(sure, s)
	}
	if sure, s := bevel.Wrong(b, 0); sure != api.Open || s != api.Clear {
		t.Error(sure, s)
	}
}

// told is what is told of the boats of a book.
type told struct {
	boats   int
	offsets [][]int    // of each frame
	bevels  [][]int    // of each frame but the last one
	stands  []api.Sure // likewise
	alike   []api.Sure // likewise: whether its bevel is that of the first frame
	wrong   []api.Sure // of each reading
	s       api.Snag
}

func isTold(t *testing.T, b api.BevelBook, want told) {
	t.Helper()
	if n, s := bevel.Boats(b); n != want.boats || s != api.Clear {
		t.Error("Boats", n, s, want.boats)
	}
	for frame, offsets := range want.offsets {
		if l, s := bevel.Offsets(b, frame); !slices.Equal(l, offsets) || s != want.s {
			t.Error("Offsets", frame, l, s, offsets)
		}
	}
	for frame, bevels := range want.bevels {
		if l, s := bevel.At(b, frame); !slices.Equal(l, bevels) || s != want.s {
			t.Error("At", frame, l, s, bevels)
		}
	}
	for frame, stands := range want.stands {
		if sure, s := bevel.Stands(b, frame); sure != stands || s != want.s {
			t.Error("Stands", frame, sure, s, stands)
		}
	}
	for frame, alike := range want.alike {
		sure, s := bevel.Alike(b, 0, frame)
		if turned, z := bevel.Alike(b, frame, 0); sure != alike || s != want.s || turned != alike || z != want.s {
			t.Error("Alike", frame, sure, s, turned, z, alike)
		}
	}
	for i, wrong := range want.wrong {
		if sure, s := bevel.Wrong(b, i); sure != wrong || s != want.s {
			t.Error("Wrong", i, sure, s, wrong)
		}
	}
}

// Readings leave fewer boats, or none; each choice of wrong readings makes boats of its own.
func TestP8_2Known(t *testing.T) {
	lists := func(lists ...[]int) [][]int { return lists }
	sures := func(sures ...api.Sure) []api.Sure { return sures }
	const yes, no, open = api.Yes, api.No, api.Open
	frames, bevels := lists(list(10), list(12, 13), list(14), list(14, 15)), lists(list(2, 4), list(1, 2), list(0, 1))
	nothing := lists(nil, nil, nil)
	for i, x := range []struct {
		text string
		want told
	}{
		{textE, told{4, frames, bevels, sures(yes, yes, open), sures(yes, open, no), sures(open, open), api.Clear}},
		{textN, told{4, frames, bevels, sures(yes, yes, open), sures(yes, open, no), nil, api.Clear}},
		{textC, told{0, lists(nil, nil, nil, nil), nothing, sures(open, open, open), sures(open, open, open), sures(open, open), api.Foul}},
		{textD, told{8, frames, bevels, sures(yes, yes, open), sures(yes, open, no), sures(open, open), api.Clear}},
		{textN + "reading 0 2..4\n", told{8, frames, bevels, sures(yes, yes, open), sures(yes, open, no), sures(open), api.Clear}}, // a reading that is wrong says nothing, also if it would be right
		{textN + "reading 0 9\n", told{4, frames, bevels, sures(yes, yes, open), sures(yes, open, no), sures(yes), api.Clear}},
		{textE + "reading 0 2\n", told{2, lists(list(10), list(12), list(14), list(14, 15)), lists(list(2), list(2), list(0, 1)), sures(yes, yes, open), sures(yes, yes, no), sures(yes, no, no), api.Clear}},
		{textE + "reading 2 0\n", told{2, lists(list(10), list(12, 13), list(14), list(14)), lists(list(2, 4), list(1, 2), list(0)), sures(yes, yes, no), sures(yes, open, no), sures(open, open, no), api.Clear}},
		{textE + "reading 2 5\n", told{0, lists(nil, nil, nil, nil), nothing, sures(open, open, open), sures(open, open, open), sures(open, open, open), api.Foul}},
		{textD + "reading 2 5\n", told{4, frames, bevels, sures(yes, yes, open), sures(yes, open, no), sures(open, open, yes), api.Clear}},
		{textF, told{1, lists(list(5), list(5), list(5)), lists(list(0), list(0)), sures(no, no), sures(yes, yes), nil, api.Clear}},
		{textU, told{2, lists(list(9), list(7, 8), list(4)), lists(list(-3, -2), list(-6, -5)), sures(no, no), sures(yes, no), nil, api.Clear}},
		{textU + "reading 1 -9..-6\n", told{1, lists(list(9), list(8), list(4)), lists(list(-2), list(-6)), sures(no, no), sures(yes, no), sures(no), api.Clear}},
		{textW, told{2, lists(list(5), list(5, 6), list(6)), lists(list(0, 1), list(0, 1)), sures(open, open), sures(yes, no), sures(open, open, yes), api.Clear}},
		{textS, told{11, lists(list(4, 5, 6), list(5), list(4, 5, 6)), lists(list(-1, 0), list(-1, 0)), sures(no, no), sures(yes, open), sures(open, open), api.Clear}},
		{textL, told{18, lists(list(0, 1, 2), list(957, 958, 959), list(0), list(959), list(0), list(959)), lists(list(955, 956, 957, 958, 959), list(-959, -958, -957), list(959), list(-959), list(959)), sures(yes, no, yes, no, yes), sures(yes, no, open, no, open), sures(open), api.Clear}},
	} {
		isTold(t, parse(t, x.text), x.want)
		if t.Failed() {
			t.Fatal(i)
		}
	}
}

func TestP8_2Absent(t *testing.T) {
	for _, text := range []string{textE, textC} {
		b := parse(t, text)
		for _, i := range []int{-1, 4, 5, most, least} {
			if l, s := bevel.Offsets(b, i); len(l) > 0 || s != api.Absent {
				t.Error(text, i, l, s)
			}
		}
		for _, i := range []int{-1, 3, 4, most, least} { // the last frame has no bevel
			if l, s := bevel.At(b, i); len(l) > 0 || s != api.Absent {
				t.Error(text, i, l, s)
			}
			if sure, s := bevel.Stands(b, i); sure != api.Open || s != api.Absent {
				t.Error(text, i, sure, s)
			}
			if sure, s := bevel.Alike(b, i, 0); sure != api.Open || s != api.Absent {
				t.Error(text, i, sure, s)
			}
			if sure, s := bevel.Alike(b, 0, i); sure != api.Open || s != api.Absent {
				t.Error(text, i, sure, s)
			}
		}
		for _, i := range []int{-1, 2, 3, most, least} {
			if sure, s := bevel.Wrong(b, i); sure != api.Open || s != api.Absent {
				t.Error(text, i, sure, s)
			}
		}
	}
	if sure, s := bevel.Wrong(parse(t, textN), 0); sure != api.Open || s != api.Absent {
		t.Error(sure, s)
	}
}

func TestP8_2Everything(t *testing.T) {
	snags, stands, alike, wrong := map[api.Snag]int{}, map[api.Sure]int{}, map[api.Sure]int{}, map[api.Sure]int{}
	eachBook(t, 500, func(t *testing.T, b api.BevelBook, o *oracle, r *rand.Rand) {
		want := told{boats: len(o.ships), s: o.snag()}
		for frame := range b.Offsets {
			want.offsets = append(want.offsets, o.offsets(frame))
		}
		for frame := range len(b.Offsets) - 1 {
			want.bevels = append(want.bevels, o.at(frame))
			want.stands = append(want.stands, o.stands(frame))
			want.alike = append(want.alike, o.alike(0, frame))
			stands[want.stands[frame]]++
			alike[want.alike[frame]]++
			for other := range frame {
				if sure, s := bevel.Alike(b, frame, other); sure != o.alike(other, frame) || s != want.s {
					t.Error("Alike", frame, other, sure, s)
				}
			}
		}
		for i := range b.Readings {
			want.wrong = append(want.wrong, o.wrong(i))
			wrong[want.wrong[i]]++
		}
		isTold(t, b, want)
		snags[want.s]++
	})
	if snags[api.Foul] < 50 || snags[api.Clear] < 350 {
		t.Error("the books are too much alike", snags)
	}
	for _, seen := range []map[api.Sure]int{stands, alike, wrong} {
		if seen[api.Yes] < 50 || seen[api.No] < 50 || seen[api.Open] < 50 {
			t.Error("the books are too much alike", stands, alike, wrong)
		}
	}
}

// A book of the greatest size: 729 offsets, and 11 choices of wrong readings.
func TestGreatestBook(t *testing.T) {
	b := api.BevelBook{Run: 1, Scale: 1, Follow: 4, Bite: 1, Wrong: 2}
	for range api.MaxBevelFrames {
		b.Offsets = append(b.Offsets, to(10, 12))
	}
	for range api.MaxBevelReadings {
		b.Readings = append(b.Readings, reading(0, to(-99999, 99999)))
	}
	if n, s := bevel.Boats(b); n != 11*729 || s != api.Clear {
		t.Error(n, s)
	}
	if l, s := bevel.At(b, 4); !slices.Equal(l, list(-2, -1, 0, 1, 2)) || s != api.Clear {
		t.Error(l, s)
	}
	if sure, s := bevel.Wrong(b, 3); sure != api.Open || s != api.Clear {
		t.Error(sure, s)
	}
	if sure, s := bevel.Follows(b, 0, 5); sure != api.Yes || s != api.Clear {
		t.Error(sure, s)
	}
	if l, s := bevel.Breaks(b); len(l) > 0 || s != api.Clear {
		t.Error(l, s)
	}
	if x, s := bevel.Passes(b, 0, 5); x != to(0, 2) || s != api.Clear {
		t.Error(x, s)
	}
	if l, s := bevel.Fewest(b); len(l) > 0 || s != api.Clear {
		t.Error(l, s)
	}
	if l, s := bevel.Clash(b); len(l) > 0 || s != api.Clear {
		t.Error(l, s)
	}
	if frame, left, s := bevel.Ask(b); frame != 0 || left != 11*243 || s != api.Clear {
		t.Error(frame, left, s)
	}
}

// Whatever the offsets really are, if the readings that are not wrong are right, they are a boat, and all that is told is so.
func TestP8_6WhateverItIs(t *testing.T) {
	tried, astray := 0, 0
	eachBook(t, 150, func(t *testing.T, b api.BevelBook, o *oracle, r *rand.Rand) {
		for range 3 {
			x := clone(b)
			x.Readings = nil
			offsets := someOffsets(r, b)
			var wrong []int
			for i := range r.Intn(api.MaxBevelReadings + 1) {
				y := readingOf(r, bevelsOf(b, offsets))
				if len(wrong) < b.Wrong && r.Intn(3) == 0 {
					wrong = append(wrong, i)
					y = reading(r.Intn(len(offsets)-1), to(r.Intn(9)-4, 4))
				}
				x.Readings = append(x.Readings, y)
			}
			tried++
			astray += len(wrong)
			tellsRight(t, x, offsets, wrong)
		}
	})
	if tried < 450 || astray < 120 {
		t.Error("too few boats", tried, astray)
	}
}

// isRight tells whether what is sure is so.
func isRight(sure api.Sure, is bool) bool {
	return sure == api.Open || (sure == api.Yes) == is
}

// tellsRight tests that all that a book tells is so of offsets and wrong readings that are one of its boats.
func tellsRight(t *testing.T, b api.BevelBook, offsets, wrong []int) {
	t.Helper()
	if is, s := bevel.IsBoat(b, offsets, wrong); !is || s != api.Clear {
		t.Error("IsBoat", b, offsets, wrong, is, s)
	}
	if n, s := bevel.Boats(b); n < 1 || s != api.Clear {
		t.Error("Boats", b, n, s)
	}
	bevels := bevelsOf(b, offsets)
	if l, s := bevel.Bevels(b, offsets); !slices.Equal(l, bevels) || s != api.Clear {
		t.Error("Bevels", b, offsets, l, s)
	}
	for frame, offset := range offsets {
		if l, s := bevel.Offsets(b, frame); !slices.Contains(l, offset) || s != api.Clear {
			t.Error("Offsets", b, offsets, wrong, frame, l, s)
		}
	}
	breaks, s := bevel.Breaks(b)
	for frame, n := range bevels {
		if l, s := bevel.At(b, frame); !slices.Contains(l, n) || s != api.Clear {
			t.Error("At", b, offsets, wrong, frame, l, s)
		}
		if sure, s := bevel.Stands(b, frame); !isRight(sure, n > 0) || s != api.Clear {
			t.Error("Stands", b, offsets, wrong, frame, sure, s)
		}
		if sure, s := bevel.Alike(b, 0, frame); !isRight(sure, n == bevels[0]) || s != api.Clear {
			t.Error("Alike", b, offsets, wrong, frame, sure, s)
		}
		if frame > 0 && !followsAt(b, bevels, frame) && !slices.Contains(breaks, frame) || s != api.Clear {
			t.Error("Breaks", b, offsets, wrong, breaks, s)
		}
		for from := range frame + 1 {
			if sure, s := bevel.Follows(b, from, frame+1); !isRight(sure, followsFrom(b, bevels, from, frame+1)) || s != api.Clear {
				t.Error("Follows", b, offsets, wrong, from, frame+1, sure, s)
			}
			if x, s := bevel.Passes(b, from, frame+1); !isIn(x, passesFrom(b, bevels, from, frame+1)) || s != api.Clear {
				t.Error("Passes", b, offsets, wrong, from, frame+1, x, s)
			}
		}
	}
	for i := range b.Readings {
		if sure, s := bevel.Wrong(b, i); !isRight(sure, slices.Contains(wrong, i)) || s != api.Clear {
			t.Error("Wrong", b, offsets, wrong, i, sure, s)
		}
	}
	if l, s := bevel.Fewest(b); len(l) > len(wrong) || s != api.Clear {
		t.Error("Fewest", b, offsets, wrong, l, s)
	}
	if l, s := bevel.Clash(b); len(wrong) == 0 && len(l) > 0 || s != api.Clear {
		t.Error("Clash", b, offsets, wrong, l, s)
	}
}

// An offset is among those of a frame just if the book agrees when it is measured; what is Open is so in a boat, and is not in another one.
func TestP8_7NoOthers(t *testing.T) {
	tried, sures := 0, map[api.Sure]int{}
	eachBook(t, 300, func(t *testing.T, b api.BevelBook, o *oracle, r *rand.Rand) {
		if len(o.ships) == 0 {
			return
		}
		for frame, x := range b.Offsets {
			l, _ := bevel.Offsets(b, frame)
			for n := max(x.Low-2, 0); n <= min(x.High+2, api.MaxBevelOffset); n++ {
				tried++
				_, s := bevel.Measure(b, frame, one(n))
				if has := slices.Contains(l, n); has != (s == api.Clear) || has != (o.with(frame, n) > 0) {
					t.Error("Offsets", frame, n, l, s)
				}
			}
		}
		isSure := func(what string, sure api.Sure, is func(x ship) bool) {
			sures[sure]++
			if many := o.count(is); (sure == api.Yes) != (many == len(o.ships)) || (sure == api.No) != (many == 0) {
				t.Error(what, sure, many)
			}
		}
		last := len(b.Offsets) - 1
		for frame := range last {
			sure, _ := bevel.Stands(b, frame)
			isSure("Stands", sure, func(x ship) bool { return x.bevels[frame] > 0 })
			sure, _ = bevel.Alike(b, frame, last-1)
			isSure("Alike", sure, func(x ship) bool { return x.bevels[frame] == x.bevels[last-1] })
			sure, _ = bevel.Follows(b, frame, last)
			isSure("Follows", sure, func(x ship) bool { return followsFrom(b, x.bevels, frame, last) })
		}
		for i := range b.Readings {
			sure, _ := bevel.Wrong(b, i)
			isSure("Wrong", sure, func(x ship) bool { return slices.Contains(x.wrong, i) })
		}
	})
	if tried < 5000 || sures[api.Open] < 500 || sures[api.Yes] < 300 || sures[api.No] < 300 {
		t.Error("the books are too much alike", tried, sures)
	}
}

// The order of readings changes no more than indexes.
func TestP8_13Order(t *testing.T) {
	tried := 0
	eachBook(t, 300, func(t *testing.T, b api.BevelBook, o *oracle, r *rand.Rand) {
		if len(b.Readings) < 2 {
			return
		}
		tried++
		now, order := clone(b), r.Perm(len(b.Readings))
		for i, was := range order {
			now.Readings[i] = b.Readings[was]
		}
		want, got := calls(b, news{to: len(b.Offsets) - 1}), calls(now, news{to: len(b.Offsets) - 1})
		for i, c := range want {
			switch c.name {
			case "Boats", "Offsets", "At", "Stands", "Alike", "Follows", "Breaks", "Passes", "Ask", "Bevels":
				if !alike(t, c.results, got[i].results) {
					t.Error(c, got[i])
				}
			}
		}
		for i, was := range order {
			sure, s := bevel.Wrong(now, i)
			if before, z := bevel.Wrong(b, was); sure != before || s != z {
				t.Error("Wrong", order, i, sure, s, before, z)
			}
		}
		for name, question := range map[string]func(api.BevelBook) ([]int, api.Snag){"Fewest": bevel.Fewest, "Clash": bevel.Clash} {
			before, _ := question(b)
			if after, s := question(now); len(after) != len(before) || s != api.Clear {
				t.Error(name, order, before, after, s)
			}
		}
		x := o.perhaps(r)
		var moved []int
		for i, was := range order {
			if slices.Contains(x.wrong, was) {
				moved = append(moved, i)
			}
		}
		if is, s := bevel.IsBoat(now, x.offsets, moved); is != isBoat(b, x.offsets, x.wrong) || s != api.Clear {
			t.Error("IsBoat", order, x, moved, is, s)
		}
	})
	if tried < 150 {
		t.Error("too few books", tried)
	}
}

// perhaps returns a boat if there is one, or what is none.
func (o *oracle) perhaps(r *rand.Rand) ship {
	if len(o.ships) > 0 && r.Intn(3) > 0 {
		return o.ships[r.Intn(len(o.ships))]
	}
	return ship{offsets: someOffsets(r, o.book), wrong: randomWrong(r, o.book)}
}
