package bevel_test

import (
	"math/rand"
	"reflect"
	"slices"
	"testing"

	"ribband/api"
	"ribband/bevel"
)

func TestP8_1Examples(t *testing.T) {
	b := parse(t, textE)
	if l, s := bevel.Bevels(b, list(10, 12, 14, 13)); !slices.Equal(l, list(2, 2, -2)) || s != api.Clear {
		t.Error(l, s)
	}
	if is, s := bevel.IsBoat(b, list(10, 12, 14, 14), list(0)); !is || s != api.Clear {
		t.Error(is, s)
	}
	if is, s := bevel.IsBoat(b, list(10, 12, 14, 14), nil); is || s != api.Clear {
		t.Error(is, s)
	}
}

func TestP8_1CheckBook(t *testing.T) {
	offset := func(x api.Span) func(b *api.BevelBook) {
		return func(b *api.BevelBook) { b.Offsets[1] = x }
	}
	readings := func(list ...api.BevelReading) func(b *api.BevelBook) {
		return func(b *api.BevelBook) { b.Readings = list }
	}
	for i, x := range []struct {
		change func(b *api.BevelBook)
		want   api.Snag
	}{
		{func(b *api.BevelBook) {}, api.Clear},
		{func(b *api.BevelBook) { b.Run = 0 }, api.Range},
		{func(b *api.BevelBook) { b.Run = 1 }, api.Clear},
		{func(b *api.BevelBook) { b.Run = 99 }, api.Clear},
		{func(b *api.BevelBook) { b.Run = 100 }, api.Range},
		{func(b *api.BevelBook) { b.Run = -3 }, api.Range},
		{func(b *api.BevelBook) { b.Run = least }, api.Range},
		{func(b *api.BevelBook) { b.Run = most }, api.Range},
		{func(b *api.BevelBook) { b.Scale = 0 }, api.Range},
		{func(b *api.BevelBook) { b.Scale = 1 }, api.Clear},
		{func(b *api.BevelBook) { b.Scale = 99 }, api.Clear},
		{func(b *api.BevelBook) { b.Scale = 100 }, api.Range},
		{func(b *api.BevelBook) { b.Scale = least }, api.Range},
		{func(b *api.BevelBook) { b.Follow = -1 }, api.Range},
		{func(b *api.BevelBook) { b.Follow = 0 }, api.Clear},
		{func(b *api.BevelBook) { b.Follow = 999 }, api.Clear},
		{func(b *api.BevelBook) { b.Follow = 1000 }, api.Range},
		{func(b *api.BevelBook) { b.Follow = most }, api.Range},
		{func(b *api.BevelBook) { b.Bite = 0 }, api.Range},
		{func(b *api.BevelBook) { b.Bite = 1 }, api.Clear},
		{func(b *api.BevelBook) { b.Bite = 99 }, api.Clear},
		{func(b *api.BevelBook) { b.Bite = 100 }, api.Range},
		{func(b *api.BevelBook) { b.Bite = least }, api.Range},
		{func(b *api.BevelBook) { b.Wrong = -1 }, api.Range},
		{func(b *api.BevelBook) { b.Wrong = 0 }, api.Clear}, // even if there is no boat
		{func(b *api.BevelBook) { b.Wrong = 2 }, api.Clear},
		{func(b *api.BevelBook) { b.Wrong = 3 }, api.Range},
		{func(b *api.BevelBook) { b.Wrong = most }, api.Range},
		{func(b *api.BevelBook) { b.Wrong, b.Readings = 2, nil }, api.Clear},
		{func(b *api.BevelBook) { b.Offsets, b.Readings = nil, nil }, api.Many},
		{func(b *api.BevelBook) { b.Offsets, b.Readings = b.Offsets[:2], nil }, api.Many},
		{func(b *api.BevelBook) { b.Offsets = b.Offsets[:3] }, api.Clear},
		{func(b *api.BevelBook) { b.Offsets = make([]api.Span, 6) }, api.Clear},
		{func(b *api.BevelBook) { b.Offsets = make([]api.Span, 7) }, api.Many},
		{offset(to(0, 2)), api.Clear},
		{offset(to(0, 3)), api.Range},
		{offset(to(957, 959)), api.Clear},
		{offset(to(958, 960)), api.Range},
		{offset(one(960)), api.Range},
		{offset(to(-1, 0)), api.Range},
		{offset(to(6, 5)), api.Range},
		{offset(to(least, most)), api.Range},
		{offset(to(most, least)), api.Range},
		{readings(), api.Clear},
		{readings(reading(0, to(-99999, 99999)), reading(1, one(-99999)), reading(2, one(99999))), api.Clear},
		{readings(make([]api.BevelReading, 4)...), api.Clear},
		{readings(make([]api.BevelReading, 5)...), api.Many},
		{readings(reading(-1, one(2))), api.Absent},
		{readings(reading(3, one(2))), api.Absent}, // the last frame has no bevel
		{readings(reading(4, one(2))), api.Absent},
		{readings(reading(least, one(2))), api.Absent},
		{readings(reading(most, to(1, 0))), api.Absent}, // its frame comes before its bevel
		{readings(reading(0, to(-100000, 0))), api.Range},
		{readings(reading(0, to(0, 100000))), api.Range},
		{readings(reading(0, to(1, 0))), api.Range},
		{readings(reading(0, to(least, most))), api.Range},
		{readings(reading(0, one(2)), reading(0, to(1, 0)), reading(3, one(2))), api.Range}, // the first reading that has a snag decides
		{readings(reading(0, one(2)), reading(3, one(2)), reading(0, to(1, 0))), api.Absent},
	} {
		b := parse(t, textE)
		x.change(&b)
		if s := bevel.CheckBook(b); s != x.want {
			t.Error(i, s)
		}
	}
}

// Snags of a book come in the order of the chapter.
func TestP8_1CheckBookOrder(t *testing.T) {
	for i := range 5 { // each number comes before how many offsets there are
		b := parse(t, textE)
		b.Offsets = nil
		numbers := []*int{&b.Run, &b.Scale, &b.Follow, &b.Bite, &b.Wrong}
		if *numbers[i] = -1; bevel.CheckBook(b) != api.Range {
			t.Error(i)
		}
	}
	b := parse(t, textE)
	b.Wrong = 3
	b.Offsets = append(b.Offsets, one(1), one(1), one(1))
	b.Offsets[5] = one(960)
	b.Readings = []api.BevelReading{reading(5, to(1, 0)), reading(5, one(6)), reading(0, to(1, 0)), {}, {}}
	for i, x := range []struct {
		mend func()
		want api.Snag
	}{
		{func() {}, api.Range},
		{func() { b.Wrong = 1 }, api.Many},
		{func() { b.Offsets = b.Offsets[:2] }, api.Many},
		{func() { b.Offsets = b.Offsets[:6] }, api.Range},
		{func() { b.Offsets[5] = one(959) }, api.Many},
		{func() { b.Readings = b.Readings[:4] }, api.Absent},
		{func() { b.Readings[0].Frame = 4 }, api.Range},
		{func() { b.Readings[0].Bevel = one(1) }, api.Absent},
		{func() { b.Readings[1].Frame = 4 }, api.Range},
		{func() { b.Readings[2].Bevel = one(1) }, api.Clear},
	} {
		x.mend()
		if s := bevel.CheckBook(b); s != x.want {
			t.Error(i, s)
		}
	}
}

// Snags of offsets come before those of wrong readings.
func TestP8_1BoatSnags(t *testing.T) {
	good := list(10, 12, 14, 14)
	for i, x := range []struct {
		text           string
		offsets, wrong []int
		want           api.Snag
	}{
		{textE, list(0, 959, 0, 959), nil, api.Clear},
		{textE, good, list(0, 1), api.Clear}, // more of them than can be wrong
		{textC, good, list(0, 1), api.Clear},
		{textE, nil, list(9), api.Many},
		{textE, list(10, 12, 14), list(9), api.Many},
		{textE, list(10, 12, 14, 14, 14), nil, api.Many},
		{textE, list(10, 12, 960), list(9), api.Many},
		{textE, list(10, 12, 14, 960), list(9), api.Range},
		{textE, list(-1, 12, 14, 14), list(1, 0), api.Range},
		{textE, list(least, 12, 14, 14), nil, api.Range},
		{textC, list(10, 12, 14, most), nil, api.Range},
		{textE, good, list(2), api.Absent},
		{textE, good, list(-1), api.Absent},
		{textE, good, list(most), api.Absent},
		{textE, good, list(least), api.Absent},
		{textN, good, list(0), api.Absent},
		{textE, good, list(0, 0), api.Turned},
		{textE, good, list(1, 0), api.Turned},
		{textE, good, list(1, 0, 2), api.Turned}, // number by number
		{textE, good, list(0, 2, 1), api.Absent},
		{textE, good, list(1, -1), api.Absent},
		{textC, good, list(1, 1), api.Turned},
	} {
		b := parse(t, x.text)
		if is, s := bevel.IsBoat(b, x.offsets, x.wrong); s != x.want || s != api.Clear && is {
			t.Error(i, "IsBoat", is, s)
		}
		want := x.want
		if want == api.Absent || want == api.Turned {
			want = api.Clear
		}
		if l, s := bevel.Bevels(b, x.offsets); s != want || s != api.Clear && len(l) > 0 {
			t.Error(i, "Bevels", l, s)
		}
	}
}

func TestP8_1Bevels(t *testing.T) {
	const whole = "offset 0\noffset 0\noffset 0\n"
	for i, x := range []struct {
		text    string
		offsets []int
		want    []int
	}{
		{textE, list(10, 13, 14, 15), list(4, 1, 1)},
		{textE, list(0, 1, 3, 6), list(1, 2, 4)}, // 4/3, 8/3, 12/3
		{textE, list(6, 3, 1, 0), list(-4, -3, -2)},
		{textE, list(959, 0, 959, 959), list(-1279, 1278, 0)}, // offsets that no boat has
		{textC, list(10, 12, 14, 14), list(2, 2, 0)},          // there is no boat
		{textF, list(1, 2, 0), list(1, -2)},
		{textU, list(9, 7, 4), list(-3, -5)},
		{textU, list(9, 8, 4), list(-2, -6)},
		{textL, list(2, 957, 0, 959, 0, 959), list(955, -957, 959, -959, 959)},
		{"bevel 1 99 0 1 0\n" + whole, list(0, 959, 0), list(94941, -94941)},
		{"bevel 99 1 0 1 0\n" + whole, list(0, 1, 0), list(0, -1)},
		{"bevel 99 1 0 1 0\n" + whole, list(100, 0, 99), list(-2, 1)},
		{"bevel 99 1 0 1 0\n" + whole, list(98, 197, 98), list(1, -1)},
		{"bevel 99 1 0 1 0\n" + whole, list(0, 98, 197), list(0, 1)},
		{"bevel 7 2 0 1 0\n" + whole, list(10, 13, 10), list(0, -1)},
	} {
		if l, s := bevel.Bevels(parse(t, x.text), x.offsets); !slices.Equal(l, x.want) || s != api.Clear {
			t.Error(i, l, s)
		}
	}
}

func TestP8_1IsBoat(t *testing.T) {
	for i, x := range []struct {
		text           string
		offsets, wrong []int
		want           bool
	}{
		{textE, list(10, 12, 14, 15), list(0), true},
		{textE, list(10, 13, 14, 15), list(1), true},
		{textE, list(10, 13, 14, 15), list(0), false},
		{textE, list(10, 12, 14, 15), list(1), false},
		{textE, list(10, 12, 14, 15), list(0, 1), false}, // too many are wrong
		{textD, list(10, 12, 14, 15), list(0, 1), true},
		{textD, list(10, 12, 14, 15), list(0), true},
		{textD, list(10, 12, 14, 15), nil, false},
		{textC, list(10, 12, 14, 15), nil, false},
		{textC, list(10, 12, 14, 15), list(0), false},
		{textE, list(11, 12, 14, 15), list(0), false}, // not the offsets of the frames
		{textE, list(10, 12, 13, 15), list(0), false},
		{textE, list(10, 12, 14, 16), list(0), false},
		{textE, list(10, 12, 14, 13), list(0), false},
		{textN, list(10, 12, 14, 14), nil, true},
		{textN + "reading 0 2\n", list(10, 12, 14, 14), nil, true},
		{textN + "reading 0 2\n", list(10, 12, 14, 14), list(0), true}, // what is wrong says nothing, right or not
		{textN + "reading 0 2\n", list(10, 13, 14, 14), nil, false},
		{textN + "reading 0 3..4\n", list(10, 13, 14, 14), nil, true},
		{textN + "reading 0 4..5\n", list(10, 13, 14, 14), nil, true},
		{textN + "reading 0 5\n", list(10, 13, 14, 14), nil, false},
		{textW, list(5, 5, 6), list(0, 2), true},
		{textW, list(5, 6, 6), list(1, 2), true},
		{textW, list(5, 6, 6), list(0, 2), false},
		{textW, list(5, 6, 6), list(2), false},
		{textU, list(9, 7, 4), nil, true},
		{textU, list(9, 6, 4), nil, false},
	} {
		if is, s := bevel.IsBoat(parse(t, x.text), x.offsets, x.wrong); is != x.want || s != api.Clear {
			t.Error(i, is, s)
		}
	}
}

func TestP8_1Everything(t *testing.T) {
	boats := map[bool]int{}
	eachBook(t, 400, func(t *testing.T, b api.BevelBook, o *oracle, r *rand.Rand) {
		for range 8 {
			offsets, wrong := randomOffsets(r, b), randomWrong(r, b)
			want := isBoat(b, offsets, wrong)
			boats[want]++
			if is, s := bevel.IsBoat(b, offsets, wrong); is != want || s != api.Clear {
				t.Error("IsBoat", offsets, wrong, is, s)
			}
			if l, s := bevel.Bevels(b, offsets); !slices.Equal(l, bevelsOf(b, offsets)) || s != api.Clear {
				t.Error("Bevels", offsets, l, s)
			}
		}
		for _, x := range o.ships {
			if is, s := bevel.IsBoat(b, x.offsets, x.wrong); !is || s != api.Clear {
				t.Error("IsBoat", x, is, s)
			}
			if len(o.ships) > 300 {
				break
			}
		}
	})
	if boats[true] < 400 || boats[false] < 400 {
		t.Error("the books are too much alike", boats)
	}
}

func TestP8_3Examples(t *testing.T) {
	b := parse(t, textE)
	if sure, s := bevel.Follows(b, 0, 1); sure != api.Yes || s != api.Clear {
		t.Error(sure, s)
	}
	if sure, s := bevel.Follows(b, 0, 3); sure != api.Open || s != api.Clear {
		t.Error(sure, s)
	}
	if l, s := bevel.Breaks(b); !slices.Equal(l, list(1, 2)) || s != api.Clear {
		t.Error(l, s)
	}
	if x, s := bevel.Passes(b, 0, 3); x != to(1, 2) || s != api.Clear {
		t.Error(x, s)
	}
	if x, s := bevel.Passes(b, 1, 3); x != one(1) || s != api.Clear {
		t.Error(x, s)
	}
}

func TestP8_3Planing(t *testing.T) {
	const end = "offset 0\noffset 10\noffset 7\n"
	for i, x := range []struct {
		text     string
		from, to int
		follows  api.Sure
		passes   api.Span
		s        api.Snag
	}{
		{textE, 0, 2, api.Open, to(1, 2), api.Clear},
		{textE, 1, 2, api.Yes, one(1), api.Clear}, // no frame is between them
		{textE, 2, 3, api.Yes, to(0, 1), api.Clear},
		{textE + "reading 0 4\n", 0, 2, api.No, one(2), api.Clear}, // 4, 1
		{textE + "reading 0 2\n", 0, 2, api.Yes, one(1), api.Clear},
		{textE + "reading 0 2\n", 0, 3, api.Open, one(1), api.Clear}, // 2, 2, 0..1
		{textC, 0, 1, api.Open, one(0), api.Foul},
		{textC, 0, 3, api.Open, one(0), api.Foul},
		{textF, 0, 2, api.Yes, one(0), api.Clear},
		{textU, 0, 2, api.Open, one(3), api.Clear},
		{textU, 0, 1, api.Yes, to(1, 2), api.Clear},
		{textU, 1, 2, api.Yes, one(3), api.Clear},
		{textU + "reading 1 -6\n", 0, 2, api.No, one(3), api.Clear},
		{textU + "reading 1 -5\n", 0, 2, api.Yes, one(3), api.Clear},
		{textT, 0, 3, api.Yes, one(1), api.Clear}, // 0, 0, 1, 3, -5..-4
		{textT, 0, 4, api.No, one(1), api.Clear},
		{textT, 0, 2, api.Yes, one(0), api.Clear},
		{textT, 1, 4, api.No, one(1), api.Clear},
		{textT, 2, 4, api.No, one(1), api.Clear}, // it does not follow at the frame 3
		{textT, 3, 4, api.Yes, one(1), api.Clear},
		{textT, 3, 5, api.No, one(2), api.Clear},
		{textT, 0, 5, api.No, one(2), api.Clear},
		{textS, 0, 2, api.Open, to(0, 1), api.Clear},
		{textL, 0, 5, api.No, one(10), api.Clear},
		{"bevel 1 1 12 10 0\n" + end, 0, 2, api.No, one(1), api.Clear},
		{"bevel 1 1 13 10 0\n" + end, 0, 2, api.Yes, one(1), api.Clear}, // by 13 less
		{"bevel 1 1 13 9 0\n" + end, 0, 2, api.Yes, one(2), api.Clear},
		{"bevel 1 1 13 3 0\n" + end, 0, 2, api.Yes, one(4), api.Clear},
		{"bevel 1 1 13 3 0\n" + end, 1, 2, api.Yes, one(1), api.Clear}, // 3, below 0
		{"bevel 1 1 13 2 0\n" + end, 1, 2, api.Yes, one(2), api.Clear},
		{"bevel 1 1 13 1 0\n" + end, 0, 2, api.Yes, one(10), api.Clear},
	} {
		b := parse(t, x.text)
		if sure, s := bevel.Follows(b, x.from, x.to); sure != x.follows || s != x.s {
			t.Error(i, "Follows", sure, s)
		}
		if y, s := bevel.Passes(b, x.from, x.to); y != x.passes || s != x.s {
			t.Error(i, "Passes", y, s)
		}
	}
}

// A frame that is not there comes before two that are turned, and these come before Foul.
func TestP8_3Snags(t *testing.T) {
	for _, text := range []string{textE, textC} {
		for _, x := range []struct {
			from, to int
			want     api.Snag
		}{
			{-1, 2, api.Absent},
			{0, 4, api.Absent},
			{4, 0, api.Absent},
			{0, -1, api.Absent},
			{4, 4, api.Absent},
			{-1, -1, api.Absent},
			{least, most, api.Absent},
			{most, least, api.Absent},
			{0, 0, api.Turned},
			{1, 0, api.Turned},
			{3, 3, api.Turned},
			{3, 0, api.Turned},
		} {
			b := parse(t, text)
			if sure, s := bevel.Follows(b, x.from, x.to); sure != api.Open || s != x.want {
				t.Error(text, x, "Follows", sure, s)
			}
			if y, s := bevel.Passes(b, x.from, x.to); y != one(0) || s != x.want {
				t.Error(text, x, "Passes", y, s)
			}
		}
	}
}

func TestP8_3Breaks(t *testing.T) {
	for text, want := range map[string][]int{
		textE:                                list(1, 2),
		textN:                                list(1, 2),
		textE + "reading 0 2\n":              list(2),
		textE + "reading 2 1\n":              list(1),
		textF:                                nil,
		textU:                                list(1),
		textU + "reading 1 -6\n":             list(1),
		textU + "reading 1 -5\n":             nil,
		textT:                                list(3, 4),
		textS:                                list(1),
		textL:                                list(1, 2, 3, 4),
		"bevel 3 4 3 2 1\n" + frames + reads: nil,
		"bevel 3 4 2 2 1\n" + frames + reads: list(1),
		"bevel 3 4 0 2 1\n" + frames + reads: list(1, 2),
	} {
		if l, s := bevel.Breaks(parse(t, text)); !slices.Equal(l, want) || s != api.Clear {
			t.Error(text, l, s)
		}
	}
	if l, s := bevel.Breaks(parse(t, textC)); len(l) > 0 || s != api.Foul {
		t.Error(l, s)
	}
}

func TestP8_3Everything(t *testing.T) {
	sures, cuts, wide := map[api.Sure]int{}, map[int]int{}, 0
	eachBook(t, 500, func(t *testing.T, b api.BevelBook, o *oracle, r *rand.Rand) {
		for end := range b.Offsets {
			for from := range end {
				want := o.follows(from, end)
				sures[want]++
				if sure, s := bevel.Follows(b, from, end); sure != want || s != o.snag() {
					t.Error("Follows", from, end, sure, s, want)
				}
				span := o.passes(from, end)
				if span.Low < span.High {
					wide++
				}
				if x, s := bevel.Passes(b, from, end); x != span || s != o.snag() {
					t.Error("Passes", from, end, x, s, span)
				}
			}
		}
		breaks := o.breaks()
		cuts[len(breaks)]++
		if l, s := bevel.Breaks(b); !slices.Equal(l, breaks) || s != o.snag() {
			t.Error("Breaks", l, s, breaks)
		}
	})
	if sures[api.Yes] < 500 || sures[api.No] < 300 || sures[api.Open] < 500 || wide < 500 || cuts[0] < 50 || cuts[1] < 50 || cuts[2] < 50 || cuts[3] < 20 || cuts[4] < 10 {
		t.Error("the books are too much alike", sures, cuts, wide)
	}
}

// A bevel times Run is no more than the rise times Scale, and more than that less Run; equal rises have equal bevels, a greater rise no lesser one.
func TestP8_8Rounding(t *testing.T) {
	r := rand.New(rand.NewSource(4))
	b := parse(t, textF)
	for range 3000 {
		b.Run, b.Scale = 1+r.Intn(api.MaxBevelRun), 1+r.Intn(api.MaxBevelScale)
		offsets := list(r.Intn(960), r.Intn(960), r.Intn(960))
		if r.Intn(2) == 0 {
			offsets = list(100+r.Intn(9), 100+r.Intn(9), 100+r.Intn(9))
		}
		bevels, s := bevel.Bevels(b, offsets)
		if len(bevels) != 2 || s != api.Clear {
			t.Fatal(b, offsets, bevels, s)
		}
		rises := list(offsets[1]-offsets[0], offsets[2]-offsets[1])
		for i, n := range bevels {
			if n*b.Run > rises[i]*b.Scale || n*b.Run <= rises[i]*b.Scale-b.Run {
				t.Error(b, offsets, bevels)
			}
		}
		if rises[0] == rises[1] && bevels[0] != bevels[1] || rises[0] > rises[1] && bevels[0] < bevels[1] || rises[0] < rises[1] && bevels[0] > bevels[1] {
			t.Error(b, offsets, bevels)
		}
	}
}

// sharp returns the book of which nothing but a boat is left.
func sharp(b api.BevelBook, offsets []int) api.BevelBook {
	b = clone(b)
	for i, n := range offsets {
		b.Offsets[i] = one(n)
	}
	b.Readings = nil
	return b
}

// A plane follows along two parts that meet at a frame where it follows just if it follows along both.
func TestP8_9TwoParts(t *testing.T) {
	tried, follows := 0, map[api.Sure]int{}
	eachBook(t, 300, func(t *testing.T, b api.BevelBook, o *oracle, r *rand.Rand) {
		for _, x := range []api.BevelBook{b, sharp(b, someOffsets(r, b))} {
			breaks, s := bevel.Breaks(x)
			for end := range x.Offsets {
				for meet := 1; meet < end && s == api.Clear; meet++ {
					from := r.Intn(meet)
					tried++
					all, _ := bevel.Follows(x, from, end)
					first, _ := bevel.Follows(x, from, meet)
					second, _ := bevel.Follows(x, meet, end)
					follows[all]++
					if good := first == api.Yes && second == api.Yes; !slices.Contains(breaks, meet) && (all == api.Yes) != good || all == api.Yes && !good {
						t.Error(x, from, meet, end, all, first, second, breaks)
					}
				}
			}
		}
	})
	if tried < 2000 || follows[api.Yes] < 200 || follows[api.No] < 200 {
		t.Error("the books are too much alike", tried, follows)
	}
}

// A plane follows along each part between two breaks that are next to each other, and along no longer one; along a part of an edge no more passes are needed.
func TestP8_9Parts(t *testing.T) {
	tried := 0
	eachBook(t, 400, func(t *testing.T, b api.BevelBook, o *oracle, r *rand.Rand) {
		breaks, s := bevel.Breaks(b)
		if s != api.Clear {
			return
		}
		last := len(b.Offsets) - 1
		ends := slices.Concat(list(0), breaks, list(last))
		for i := range len(ends) - 1 {
			tried++
			if sure, s := bevel.Follows(b, ends[i], ends[i+1]); sure != api.Yes || s != api.Clear {
				t.Error("Follows", ends[i], ends[i+1], sure, s)
			}
			if ends[i+1] == last {
				continue
			}
			if sure, _ := bevel.Follows(b, ends[i], ends[i+1]+1); sure == api.Yes {
				t.Error("Follows", ends[i], ends[i+1]+1, sure)
			}
		}
		for end := range b.Offsets {
			for from := range end {
				all, _ := bevel.Passes(b, from, end)
				first := from + r.Intn(end-from)
				some, s := bevel.Passes(b, first, first+1+r.Intn(end-first))
				if some.Low > all.Low || some.High > all.High || s != api.Clear {
					t.Error("Passes", from, end, first, all, some, s)
				}
			}
		}
	})
	if tried < 600 {
		t.Error("too few parts", tried)
	}
}

// Offsets that are all greater by the same have the same bevels; a scale and a run that are both as many times as great have the same bevels, too.
func TestP8_12Moved(t *testing.T) {
	moved, times := 0, 0
	eachBook(t, 300, func(t *testing.T, b api.BevelBook, o *oracle, r *rand.Rand) {
		offsets := someOffsets(r, b)
		want, _ := bevel.Bevels(b, offsets)
		by := r.Intn(50)
		farther := clone(b)
		far := slices.Clone(offsets)
		for i, x := range b.Offsets {
			farther.Offsets[i] = to(x.Low+by, x.High+by)
			far[i] += by
		}
		if bevel.CheckBook(farther) == api.Clear {
			moved++
			if l, s := bevel.Bevels(farther, far); !slices.Equal(l, want) || s != api.Clear {
				t.Error("farther", by, offsets, l, s, want)
			}
			hasSameBevels(t, b, farther)
		}
		greater := b
		n := 2 + r.Intn(4)
		greater.Run, greater.Scale = n*b.Run, n*b.Scale
		if bevel.CheckBook(greater) == api.Clear {
			times++
			if l, s := bevel.Bevels(greater, offsets); !slices.Equal(l, want) || s != api.Clear {
				t.Error("greater", n, offsets, l, s, want)
			}
			hasSameBevels(t, b, greater)
		}
	})
	if moved < 200 || times < 200 {
		t.Error("too few books", moved, times)
	}
}

// hasSameBevels tests that all that is told of bevels is the same of two books.
func hasSameBevels(t *testing.T, b, now api.BevelBook) {
	t.Helper()
	want, got := calls(b, news{to: len(b.Offsets) - 1}), calls(now, news{to: len(b.Offsets) - 1})
	for i, c := range want {
		switch c.name {
		case "Boats", "At", "Stands", "Alike", "Follows", "Breaks", "Passes", "Wrong", "Fewest", "Clash", "Ask":
			if !reflect.DeepEqual(c.results, got[i].results) {
				t.Error(c, got[i])
			}
		}
	}
}
