package bevel_test

import (
	"math/rand"
	"reflect"
	"slices"
	"strings"
	"testing"

	"ribband/api"
	"ribband/bevel"
)

func TestP8_4Examples(t *testing.T) {
	b := parse(t, textE)
	if l, s := bevel.Fewest(b); !slices.Equal(l, list(0)) || s != api.Clear {
		t.Error(l, s)
	}
	if l, s := bevel.Clash(b); !slices.Equal(l, list(0, 1)) || s != api.Clear {
		t.Error(l, s)
	}
	if frame, left, s := bevel.Ask(b); frame != 1 || left != 2 || s != api.Clear {
		t.Error(frame, left, s)
	}
	now, s := bevel.Measure(b, 1, one(12))
	if n, _ := bevel.Boats(now); n != 2 || s != api.Clear {
		t.Error(now, n, s)
	}
	if sure, _ := bevel.Wrong(now, 0); sure != api.Yes {
		t.Error(now, sure)
	}
	now, s = bevel.Read(b, reading(2, one(0)))
	if n, _ := bevel.Boats(now); n != 2 || s != api.Clear {
		t.Error(now, n, s)
	}
	now, s = bevel.Drop(b, 0)
	if n, _ := bevel.Boats(now); n != 6 || s != api.Clear {
		t.Error(now, n, s)
	}
}

func TestP8_4FewestAndClash(t *testing.T) {
	const three = "bevel 1 1 9 1 0\noffset 10..12\noffset 10..12\noffset 10..12\n"
	const wide = "bevel 1 1 9 1 0\noffset 10..12\noffset 10..12\noffset 10..12\noffset 10..12\noffset 10..12\n"
	for i, x := range []struct {
		text          string
		fewest, clash []int
	}{
		{textE, list(0), list(0, 1)},
		{textC, list(0), list(0, 1)}, // however many can be wrong
		{textD, list(0), list(0, 1)},
		{textN, nil, nil},
		{textF, nil, nil},
		{textL, nil, nil},
		{textS, nil, nil},
		{textW, list(0, 2), list(2)}, // 1 and 2 would do, too
		{textN + "reading 0 9\n", list(0), list(0)},
		{textN + "reading 0 9\nreading 1 9\nreading 2 9\nreading 0 -9\n", list(0, 1, 2, 3), list(0)}, // more than can be wrong
		{textN + "reading 0 2\nreading 2 1\nreading 1 9\n", list(2), list(2)},
		{textE + "reading 1 1\n", list(1), list(0, 1)}, // the one that clashes with both of the others
		{textE + "reading 0 2\n", list(0), list(0, 1)},
		{textN + "reading 0 2\nreading 2 0\nreading 1 2\nreading 0 4\n", list(3), list(0, 3)},
		{textN + "reading 2 1\nreading 0 2\nreading 2 0\nreading 0 4\n", list(0, 1), list(0, 2)}, // two pairs clash
		{textN + "reading 2 1\nreading 0 4\nreading 0 2\nreading 2 0\n", list(0, 1), list(0, 3)},
		{three + "reading 0 1..2\nreading 1 1..2\n", nil, nil},
		{three + "reading 0 2\nreading 1 1..2\n", list(0), list(0, 1)},
		{wide + "reading 0 1\nreading 1 1\nreading 2 1\n", list(0), list(0, 1, 2)},                  // only all together
		{wide + "reading 0 1\nreading 1 1\nreading 2 -1\nreading 3 2\n", list(0), list(0, 1, 2, 3)}, // not even three of them
		{wide + "reading 0 1\nreading 1 1\nreading 2 -1\nreading 3 1\n", nil, nil},
		{wide + "reading 0 1\nreading 1 1\nreading 2 0\nreading 3 1\n", list(0), list(0, 1, 2, 3)},
	} {
		b := parse(t, x.text)
		if l, s := bevel.Fewest(b); !slices.Equal(l, x.fewest) || s != api.Clear {
			t.Error(i, "Fewest", l, s)
		}
		if l, s := bevel.Clash(b); !slices.Equal(l, x.clash) || s != api.Clear {
			t.Error(i, "Clash", l, s)
		}
	}
}

func TestP8_4Ask(t *testing.T) {
	for i, x := range []struct {
		text        string
		frame, left int
		s           api.Snag
	}{
		{textE, 1, 2, api.Clear},
		{textN, 1, 2, api.Clear}, // the first one of several
		{textC, 0, 0, api.Foul},
		{textD, 1, 4, api.Clear},
		{textE + "reading 0 2\n", 3, 1, api.Clear},
		{textE + "reading 2 0\n", 1, 1, api.Clear},
		{textN + "reading 0 2\n", 3, 3, api.Clear}, // 4 boats with 12, and 2 with 13
		{textF, -1, 1, api.Clear},
		{textU, 1, 1, api.Clear},
		{textU + "reading 1 -6\n", -1, 1, api.Clear},
		{textW, 1, 1, api.Clear},
		{textS, 0, 5, api.Clear},
		{textL, 0, 6, api.Clear},
		{textL + "reading 0 955\n", 0, 8, api.Clear},
		{"bevel 1 1 0 1 0\noffset 1..2\noffset 1\noffset 1..3\n", 2, 2, api.Clear},
		{"bevel 1 1 0 1 2\noffset 1\noffset 1\noffset 1\nreading 0 0\n", -1, 2, api.Clear}, // whether a reading is wrong, no offset tells
	} {
		if frame, left, s := bevel.Ask(parse(t, x.text)); frame != x.frame || left != x.left || s != x.s {
			t.Error(i, frame, left, s)
		}
	}
}

func TestP8_4Measure(t *testing.T) {
	for i, x := range []struct {
		text  string
		frame int
		x     api.Span
		want  string
		s     api.Snag
	}{
		{textE, 1, one(13), strings.Replace(textE, "12..13", "13", 1), api.Clear},
		{textE, 1, to(0, 12), strings.Replace(textE, "12..13", "12", 1), api.Clear},
		{textE, 1, to(13, 959), strings.Replace(textE, "12..13", "13", 1), api.Clear},
		{textE, 1, to(12, 13), textE, api.Clear},
		{textE, 1, to(0, 959), textE, api.Clear},
		{textE, 0, to(10, 11), textE, api.Clear},
		{textE, 3, one(15), strings.Replace(textE, "14..15", "15", 1), api.Clear}, // the last frame has an offset, too
		{textL, 0, to(1, 9), strings.Replace(textL, "0..2", "1..2", 1), api.Clear},
		{textE, 1, to(14, 959), "", api.Foul},
		{textE, 1, to(0, 11), "", api.Foul},
		{textE, 0, one(9), "", api.Foul},
		{textE + "reading 0 2\n", 1, one(13), "", api.Foul}, // in common there is something, but no boat
		{textU + "reading 1 -6\n", 1, one(7), "", api.Foul},
		{textU + "reading 1 -6\n", 1, to(7, 8), textU + "reading 1 -6\n", api.Clear},
		{textC, 1, to(0, 959), "", api.Foul},
		{textE, 1, to(0, 960), "", api.Range},
		{textE, 1, to(-1, 12), "", api.Range},
		{textE, 1, to(13, 12), "", api.Range},
		{textE, 1, to(most, least), "", api.Range},
		{textC, 1, to(least, most), "", api.Range},
		{textE, 4, one(12), "", api.Absent},
		{textE, 4, to(13, 12), "", api.Absent},
		{textE, -1, to(0, 960), "", api.Absent},
		{textC, least, one(12), "", api.Absent},
		{textE, most, one(12), "", api.Absent},
	} {
		now, s := bevel.Measure(parse(t, x.text), x.frame, x.x)
		if text, _ := bevel.Print(now); text != x.want || s != x.s {
			t.Error(i, text, s)
		}
	}
}

func TestP8_4Read(t *testing.T) {
	full := textF + strings.Repeat("reading 0 0\n", api.MaxBevelReadings)
	for i, x := range []struct {
		text string
		r    api.BevelReading
		want string
		s    api.Snag
	}{
		{textE, reading(2, one(0)), textE + "reading 2 0\n", api.Clear},
		{textE, reading(0, to(-99999, 99999)), textE + "reading 0 -99999..99999\n", api.Clear},
		{textE, reading(1, one(2)), textE + "reading 1 2\n", api.Clear}, // once more
		{textU, reading(0, to(-3, -1)), textU + "reading 0 -3..-1\n", api.Clear},
		{textN, reading(0, one(9)), textN + "reading 0 9\n", api.Clear}, // it can be wrong
		{textD, reading(0, one(9)), textD + "reading 0 9\n", api.Clear},
		{textF + strings.Repeat("reading 0 0\n", 3), reading(0, one(0)), full, api.Clear},
		{textE, reading(0, one(9)), "", api.Foul},
		{textF, reading(0, one(1)), "", api.Foul},
		{textD + "reading 0 9\n", reading(0, one(9)), "", api.Foul},
		{textC, reading(0, one(2)), "", api.Foul}, // there was no boat before
		{textE, reading(3, one(0)), "", api.Absent},
		{textE, reading(-1, to(1, 0)), "", api.Absent},
		{textE, reading(most, one(0)), "", api.Absent},
		{textC, reading(least, one(0)), "", api.Absent},
		{textE, reading(0, to(1, 0)), "", api.Range},
		{textE, reading(0, to(-100000, 0)), "", api.Range},
		{textE, reading(0, to(0, 100000)), "", api.Range},
		{textC, reading(0, to(least, most)), "", api.Range},
		{full, reading(0, one(0)), "", api.Many},
		{full, reading(7, to(1, 0)), "", api.Many}, // how many there are comes before each of them
	} {
		now, s := bevel.Read(parse(t, x.text), x.r)
		if text, _ := bevel.Print(now); text != x.want || s != x.s {
			t.Error(i, text, s)
		}
	}
}

func TestP8_4Drop(t *testing.T) {
	for i, x := range []struct {
		text    string
		reading int
		want    string
		s       api.Snag
	}{
		{textE, 0, textN + "reading 1 2\n", api.Clear},
		{textE, 1, textN + "reading 0 4\n", api.Clear},
		{textC, 0, strings.Replace(textC, "reading 0 4\n", "", 1), api.Clear},             // now there is a boat
		{textC + "reading 0 9\n", 2, textC, api.Clear},                                    // there is none
		{textW, 1, strings.Replace(textW, "reading 1 1\n", "", 1), api.Clear},             // the one in between
		{textL, 0, strings.Replace(textL, "reading 4 -99999..99999\n", "", 1), api.Clear}, // the only one
		{textE + reads, 2, textE + "reading 1 2\n", api.Clear},                            // one of two that are equal
		{textF + "reading 0 0\nreading 1 0\n", 0, textF + "reading 1 0\n", api.Clear},
		{textE, 2, "", api.Absent},
		{textE, -1, "", api.Absent},
		{textE, most, "", api.Absent},
		{textC, least, "", api.Absent},
		{textN, 0, "", api.Absent},
	} {
		now, s := bevel.Drop(parse(t, x.text), x.reading)
		if text, _ := bevel.Print(now); text != x.want || s != x.s {
			t.Error(i, text, s)
		}
	}
}

func hasBoat(b api.BevelBook) api.Snag {
	if len(shipsOf(b)) == 0 {
		return api.Foul
	}
	return api.Clear
}

func TestP8_4Everything(t *testing.T) {
	fewest, clashes, asked, snags := map[int]int{}, map[int]int{}, map[bool]int{}, map[string]map[api.Snag]int{"Measure": {}, "Read": {}}
	eachBook(t, 500, func(t *testing.T, b api.BevelBook, o *oracle, r *rand.Rand) {
		few, clash := o.fewest(), o.clash()
		fewest[len(few)]++
		clashes[len(clash)]++
		if l, s := bevel.Fewest(b); !slices.Equal(l, few) || s != api.Clear {
			t.Error("Fewest", l, s, few)
		}
		if l, s := bevel.Clash(b); !slices.Equal(l, clash) || s != api.Clear {
			t.Error("Clash", l, s, clash)
		}
		frame, left := o.ask()
		if len(o.ships) == 0 {
			frame, left = 0, 0
		}
		asked[left > 0 && frame >= 0]++
		if k, n, s := bevel.Ask(b); k != frame || n != left || s != o.snag() {
			t.Error("Ask", k, n, s, frame, left)
		}
		isNews := func(what string, book api.BevelBook, want api.Snag) func(now api.BevelBook, s api.Snag) {
			if snags[what] != nil {
				snags[what][want]++
			}
			return func(now api.BevelBook, s api.Snag) {
				if s != want || want != api.Clear && !reflect.DeepEqual(now, api.BevelBook{}) || want == api.Clear && printed(t, now) != printed(t, book) {
					t.Error(what, now, s, book, want)
				}
			}
		}
		if len(b.Readings) < api.MaxBevelReadings {
			read := clone(b)
			x := readingOf(r, bevelsOf(b, randomOffsets(r, b)))
			read.Readings = append(read.Readings, x)
			isNews("Read", read, hasBoat(read))(bevel.Read(b, x))
		}
		for i := range b.Readings {
			dropped := clone(b)
			dropped.Readings = nil
			for k, x := range b.Readings {
				if k != i {
					dropped.Readings = append(dropped.Readings, x)
				}
			}
			isNews("Drop", dropped, api.Clear)(bevel.Drop(b, i))
		}
		frame = r.Intn(len(b.Offsets))
		offset := b.Offsets[frame]
		x := to(max(offset.Low+r.Intn(4)-1, 0), min(offset.High+r.Intn(2), api.MaxBevelOffset))
		measured, want := clone(b), api.Range
		measured.Offsets[frame] = to(max(x.Low, offset.Low), min(x.High, offset.High))
		if common := measured.Offsets[frame]; x.Low <= x.High && common.Low > common.High {
			want = api.Foul
		} else if x.Low <= x.High {
			want = hasBoat(measured)
		}
		isNews("Measure", measured, want)(bevel.Measure(b, frame, x))
	})
	if fewest[0] < 150 || fewest[1] < 100 || fewest[2] < 20 || clashes[0] < 150 || clashes[1] < 40 || clashes[2] < 20 || asked[true] < 250 || asked[false] < 50 {
		t.Error("the books are too much alike", fewest, clashes, asked)
	}
	for _, seen := range snags {
		if seen[api.Clear] < 100 || seen[api.Foul] < 50 {
			t.Error("the books are too much alike", snags)
		}
	}
}

// Each reading is right about some boat, so that more of them clash only together.
func TestP8_10Together(t *testing.T) {
	clashes := map[int]int{}
	eachBook(t, 300, func(t *testing.T, b api.BevelBook, o *oracle, r *rand.Rand) {
		b.Run, b.Scale, b.Offsets, b.Readings = 1, 1, make([]api.Span, api.MaxBevelFrames), nil
		for i := range b.Offsets {
			b.Offsets[i] = to(10, 11+r.Intn(2))
		}
		for _, frame := range r.Perm(api.MaxBevelFrames - 1)[:api.MaxBevelReadings] {
			bevels := bevelsOf(b, someOffsets(r, b))
			b.Readings = append(b.Readings, reading(frame, one(bevels[frame])))
		}
		o.book = b
		few, clash := o.fewest(), o.clash()
		clashes[len(clash)]++
		if l, s := bevel.Fewest(b); !slices.Equal(l, few) || s != api.Clear {
			t.Error(b, l, s, few)
		}
		if l, s := bevel.Clash(b); !slices.Equal(l, clash) || s != api.Clear {
			t.Error(b, l, s, clash)
		}
	})
	if clashes[0] < 40 || clashes[1] > 0 || clashes[2] < 60 || clashes[3] < 10 {
		t.Error("the books are too much alike", clashes)
	}
}

// without returns a book without the readings of a set, none of which can be wrong.
func without(b api.BevelBook, set int) api.BevelBook {
	x := b
	x.Wrong, x.Readings = 0, nil
	for i, r := range b.Readings {
		if set>>i&1 == 0 {
			x.Readings = append(x.Readings, r)
		}
	}
	return x
}

func setOf(list []int) (set int) {
	for _, i := range list {
		set |= 1 << i
	}
	return set
}

// Without the readings of Fewest all others can be right together, without fewer they cannot; readings that clash cannot, and no fewer cannot.
func TestP8_10Readings(t *testing.T) {
	tried := 0
	eachBook(t, 400, func(t *testing.T, b api.BevelBook, o *oracle, r *rand.Rand) {
		few, _ := bevel.Fewest(b)
		clash, _ := bevel.Clash(b)
		if (len(few) == 0) != (len(clash) == 0) {
			t.Error(few, clash)
		}
		if len(clash) > 0 {
			tried++
		}
		all := 1<<len(b.Readings) - 1
		if n, s := bevel.Boats(without(b, setOf(few))); n == 0 || s != api.Clear {
			t.Error("the others clash", few, n, s)
		}
		if n, s := bevel.Boats(without(b, all&^setOf(clash))); (n == 0) != (len(clash) > 0) || s != api.Clear {
			t.Error("they do not clash", clash, n, s)
		}
		for set := range all + 1 {
			if n, _ := bevel.Boats(without(b, set)); n > 0 && isLess(members(set), few) {
				t.Error("fewer would do", few, members(set))
			}
			if n, _ := bevel.Boats(without(b, all&^set)); n == 0 && isLess(members(set), clash) {
				t.Error("fewer clash", clash, members(set))
			}
		}
		if n, _ := bevel.Boats(b); (n > 0) != (len(few) <= b.Wrong) {
			t.Error("so many can be wrong, or not", few, n)
		}
	})
	if tried < 100 {
		t.Error("too few clashes", tried)
	}
}

// What is measured never adds a boat; see also TestP0_6KnowingMore.
func TestP8_11Measured(t *testing.T) {
	tried := 0
	eachBook(t, 150, func(t *testing.T, b api.BevelBook, o *oracle, r *rand.Rand) {
		for frame, x := range b.Offsets {
			low := some(r, x)
			now, s := bevel.Measure(b, frame, to(low, min(low+r.Intn(2), api.MaxBevelOffset)))
			if s != api.Clear {
				continue
			}
			ships := shipsOf(now)
			if n, _ := bevel.Boats(now); n != len(ships) || n > len(o.ships) {
				t.Error(now, n)
			}
			for range min(len(ships), 5) {
				tried++
				x := ships[r.Intn(len(ships))]
				if is, s := bevel.IsBoat(b, x.offsets, x.wrong); !is || s != api.Clear {
					t.Error(now, x, is, s)
				}
			}
			for range 3 {
				offsets, wrong := randomOffsets(r, b), randomWrong(r, b)
				if is, _ := bevel.IsBoat(now, offsets, wrong); is && !isBoat(b, offsets, wrong) {
					t.Error(now, offsets, wrong)
				}
			}
		}
	})
	if tried < 1000 {
		t.Error("too few boats", tried)
	}
}

// A reading that is dropped never takes an offset away.
func TestP8_11Dropped(t *testing.T) {
	tried := 0
	eachBook(t, 300, func(t *testing.T, b api.BevelBook, o *oracle, r *rand.Rand) {
		for i := range b.Readings {
			now, s := bevel.Drop(b, i)
			if s != api.Clear {
				t.Fatal(i, s)
			}
			for frame := range b.Offsets {
				before, _ := bevel.Offsets(b, frame)
				if after, s := bevel.Offsets(now, frame); !isPart(before, after) || len(before) > 0 && s != api.Clear {
					t.Error(i, frame, before, after, s)
				}
				tried += len(before)
			}
		}
	})
	if tried < 2000 {
		t.Error("too few offsets", tried)
	}
}

// Once the offset that is asked for is known no more boats are left than is said, and no other offset leaves fewer.
func TestP8_11Ask(t *testing.T) {
	tried := 0
	eachBook(t, 300, func(t *testing.T, b api.BevelBook, o *oracle, r *rand.Rand) {
		frame, left, s := bevel.Ask(b)
		if s != api.Clear {
			return
		}
		tried++
		for i := range b.Offsets {
			worst := 0
			offsets, _ := bevel.Offsets(b, i)
			for _, n := range offsets {
				now, s := bevel.Measure(b, i, one(n))
				if s != api.Clear {
					t.Error(i, n, s)
				}
				many, _ := bevel.Boats(now)
				worst = max(worst, many)
			}
			if worst < left || i == frame && worst != left || i < frame && worst == left {
				t.Error(frame, left, i, worst)
			}
		}
		if n, _ := bevel.Boats(b); (left == n) != (frame < 0) {
			t.Error(frame, left, n)
		}
	})
	if tried < 150 {
		t.Error("too few questions", tried)
	}
}
