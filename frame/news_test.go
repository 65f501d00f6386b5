package frame_test

import (
	"math/rand"
	"reflect"
	"slices"
	"strings"
	"testing"

	"ribband/api"
	"ribband/frame"
)

func TestP3_3Examples(t *testing.T) {
	f := parse(t, textF)
	if point, left, s := frame.Ask(f); point != 1 || left != 2 || s != api.Clear {
		t.Error(point, left, s)
	}
	now, s := frame.Stick(f, api.FrameStick{Height: 8, Long: 10})
	if n, _ := frame.Boats(now); n != 3 || s != api.Clear {
		t.Error(now, n, s)
	}
	if tapes, sticks, s := frame.Clash(parse(t, textC)); !slices.Equal(tapes, []int{1}) || len(sticks) > 0 || s != api.Clear {
		t.Error(tapes, sticks, s)
	}
}

func TestP3_3Clash(t *testing.T) {
	for i, x := range []struct {
		text          string
		tapes, sticks []int
	}{
		{pointsF, nil, nil},
		{textF, nil, nil},
		{pointsF + "tape 0 1 6\n", []int{0}, nil},
		{pointsF + "stick 0 4 fits\n", nil, []int{0}},
		{pointsF + "tape 0 1 5\ntape 0 1 7\ntape 0 1 8\n", []int{1}, nil}, // the first one alone
		{pointsF + "tape 0 1 5\nstick 0 3 fits\nstick 0 3 not\nstick 0 4 fits\n", nil, []int{1}},
		{pointsF + "tape 1 2 9\nstick 4 7 not\n", []int{0}, []int{0}},                                   // a tape and a stick
		{pointsF + "tape 1 2 9\nstick 4 7 not\nstick 4 7 fits\n", []int{0}, []int{0}},                   // of several lists the least one
		{pointsF + "stick 4 7 fits\nstick 12 13 not\nstick 4 7 not\n", nil, []int{0, 2}},                // the one between is innocent
		{pointsF + "tape 0 2 15\ntape 1 2 9\nstick 4 7 not\n", []int{0, 1}, nil},                        // before 1 and 2
		{pointsF + "stick 4 7 fits\nstick 12 13 not\nstick 8 10 fits\n", nil, []int{1, 2}},              // one of two is needless
		{pointsF + "tape 1 2 10\nstick 4 7 fits\nstick 12 13 not\n", []int{0}, []int{0, 1}},             // only all together
		{pointsF + "tape 0 1 5\ntape 1 2 10\nstick 4 7 fits\nstick 12 13 not\n", []int{1}, []int{0, 1}}, // the numbers of sticks are behind those of tapes
		{pointsF + "tape 0 1 9\nstick 0 4 fits\n", []int{0}, nil},                                       // a tape comes before a stick
	} {
		tapes, sticks, s := frame.Clash(parse(t, x.text))
		if !slices.Equal(tapes, x.tapes) || !slices.Equal(sticks, x.sticks) || s != api.Clear {
			t.Error(i, tapes, sticks, s)
		}
	}
}

func TestP3_3Ask(t *testing.T) {
	for i, x := range []struct {
		text        string
		point, left int
		s           api.Snag
	}{
		{textF, 1, 2, api.Clear}, // the last point would do as well
		{pointsF + "stick 8 10 not\n", 1, 2, api.Clear},
		{pointsF + "stick 8 10 fits\n", -1, 1, api.Clear}, // one boat is left
		{pointsF + "stick 4 7 fits\n", 2, 1, api.Clear},
		{"frame 0\npoint 0 3..5\npoint 4 6..7\n", 0, 2, api.Clear},
		{"frame 0\npoint 0 3..4\npoint 4 6..8\n", 1, 2, api.Clear},
		{"frame 0\npoint 0 3\npoint 4 6\n", -1, 1, api.Clear},
		{textC, 0, 0, api.Foul},
	} {
		if point, left, s := frame.Ask(parse(t, x.text)); point != x.point || left != x.left || s != x.s {
			t.Error(i, point, left, s)
		}
	}
}

func TestP3_3Tape(t *testing.T) {
	full := pointsF + strings.Repeat("tape 0 1 5\n", api.MaxFrameTapes)
	for i, x := range []struct {
		text string
		t    api.FrameTape
		want string
		s    api.Snag
	}{
		{textF, api.FrameTape{From: 1, To: 2, Girth: one(9)}, pointsF + "tape 0 1 5\ntape 1 2 9\nstick 8 9 fits\n", api.Clear},
		{pointsF, api.FrameTape{From: 0, To: 2, Girth: to(0, 9999)}, pointsF + "tape 0 2 0..9999\n", api.Clear},
		{textF, api.FrameTape{From: 1, To: 2, Girth: one(8)}, "", api.Foul},
		{textF, api.FrameTape{From: 1, To: 3, Girth: to(1, 0)}, "", api.Absent},
		{textF, api.FrameTape{From: -1, To: -1}, "", api.Absent},
		{textF, api.FrameTape{From: 2, To: 2, Girth: to(1, 0)}, "", api.Turned},
		{textF, api.FrameTape{From: 2, To: 1}, "", api.Turned},
		{textF, api.FrameTape{From: 0, To: 1, Girth: to(6, 5)}, "", api.Range},
		{textF, api.FrameTape{From: 0, To: 1, Girth: to(5, 10000)}, "", api.Range},
		{textF, api.FrameTape{From: 0, To: 1, Girth: to(-1, 5)}, "", api.Range},
		{full, api.FrameTape{From: 0, To: 1, Girth: one(5)}, "", api.Many},
		{full, api.FrameTape{From: 9}, "", api.Many}, // how many there are comes before each of them
		{strings.TrimSuffix(full, "tape 0 1 5\n"), api.FrameTape{From: 0, To: 1, Girth: one(5)}, full, api.Clear},
		{textC, api.FrameTape{From: 0, To: 1, Girth: one(5)}, "", api.Foul},
	} {
		now, s := frame.Tape(parse(t, x.text), x.t)
		if text, _ := frame.Print(now); text != x.want || s != x.s {
			t.Error(i, text, s)
		}
	}
}

func TestP3_3Stick(t *testing.T) {
	full := pointsF + strings.Repeat("stick 8 9 fits\n", api.MaxFrameSticks)
	for i, x := range []struct {
		text string
		k    api.FrameStick
		want string
		s    api.Snag
	}{
		{textF, api.FrameStick{Height: 8, Long: 10}, textF + "stick 8 10 not\n", api.Clear},
		{textF, api.FrameStick{Height: 12, Long: 13, Fits: true}, textF + "stick 12 13 fits\n", api.Clear},
		{textF, api.FrameStick{Height: 0, Long: 0, Fits: true}, textF + "stick 0 0 fits\n", api.Clear},
		{textF, api.FrameStick{Height: 0, Long: 0}, "", api.Foul},
		{textF, api.FrameStick{Height: 8, Long: 9}, "", api.Foul},
		{textF, api.FrameStick{Height: 8, Long: 11, Fits: true}, "", api.Foul},
		{textF, api.FrameStick{Height: 13, Long: 9}, "", api.Range},
		{textF, api.FrameStick{Height: -1, Long: 9}, "", api.Range},
		{textF, api.FrameStick{Height: 8, Long: 960}, "", api.Range},
		{textF, api.FrameStick{Height: 8, Long: -1, Fits: true}, "", api.Range},
		{full, api.FrameStick{Height: 8, Long: 9, Fits: true}, "", api.Many},
		{full, api.FrameStick{Height: 99}, "", api.Many},
		{strings.TrimSuffix(full, "stick 8 9 fits\n"), api.FrameStick{Height: 8, Long: 9, Fits: true}, full, api.Clear},
		{textC, api.FrameStick{Height: 8, Long: 9, Fits: true}, "", api.Foul},
	} {
		now, s := frame.Stick(parse(t, x.text), x.k)
		if text, _ := frame.Print(now); text != x.want || s != x.s {
			t.Error(i, text, s)
		}
	}
}

func TestP3_3Measure(t *testing.T) {
	for i, x := range []struct {
		point int
		x     api.Span
		want  string
		s     api.Snag
	}{
		{1, to(7, 20), strings.Replace(textF, "6..7", "7", 1), api.Clear},
		{1, to(0, 6), strings.Replace(textF, "6..7", "6", 1), api.Clear},
		{1, to(6, 7), textF, api.Clear},
		{1, to(0, 959), textF, api.Clear},
		{0, one(3), textF, api.Clear},
		{2, one(13), strings.Replace(textF, "12..13", "13", 1), api.Clear},
		{1, to(8, 20), "", api.Foul},
		{1, to(0, 5), "", api.Foul},
		{1, to(0, 960), "", api.Range},
		{1, to(-1, 6), "", api.Range},
		{1, to(2, 1), "", api.Range},
		{1, to(least, most), "", api.Range},
		{1, to(most, least), "", api.Range},
		{3, to(2, 1), "", api.Absent},
		{-1, to(2, 3), "", api.Absent},
		{most, one(3), "", api.Absent},
	} {
		now, s := frame.Measure(parse(t, textF), x.point, x.x)
		if text, _ := frame.Print(now); text != x.want || s != x.s {
			t.Error(i, text, s)
		}
	}
	// the breadth is left something, but the stick is wrong then
	b := parse(t, pointsF+"stick 4 7 fits\n")
	if now, s := frame.Measure(b, 1, one(6)); s != api.Foul || len(now.Points) > 0 {
		t.Error(now, s)
	}
}

func TestP3_3Everything(t *testing.T) {
	clashes, asked, snags := map[[2]int]int{}, map[bool]int{}, map[api.Snag]int{}
	eachBook(t, 800, func(t *testing.T, b api.FrameBook, o *oracle, r *rand.Rand) {
		list, _ := o.clash()
		var tapes, sticks []int
		for _, n := range list {
			if n < len(b.Tapes) {
				tapes = append(tapes, n)
			} else {
				sticks = append(sticks, n-len(b.Tapes))
			}
		}
		clashes[[2]int{len(tapes), len(sticks)}]++
		if v, w, s := frame.Clash(b); !slices.Equal(v, tapes) || !slices.Equal(w, sticks) || s != api.Clear {
			t.Error("Clash", v, w, s, tapes, sticks)
		}
		point, left := o.ask()
		if len(o.boats) == 0 {
			point, left = 0, 0
		}
		asked[left > 0 && point >= 0]++
		if i, n, s := frame.Ask(b); i != point || n != left || s != o.snag() {
			t.Error("Ask", i, n, s, point, left)
		}
		point = r.Intn(len(b.Points))
		breadth := b.Points[point].Breadth
		x := to(max(breadth.Low+r.Intn(4)-1, 0), min(breadth.High+r.Intn(2), api.MaxFrameMeasure))
		both := to(max(x.Low, breadth.Low), min(x.High, breadth.High))
		measured := clone(b)
		measured.Points[point].Breadth = both
		want := api.Clear
		switch {
		case x.Low > x.High:
			want = api.Range
		case both.Low > both.High || len(newOracle(measured).boats) == 0:
			want = api.Foul
		}
		isNews(t, "Measure", want, measured)(frame.Measure(b, point, x))
		snags[want]++
		if len(b.Tapes) < api.MaxFrameTapes {
			x := tapeAbout(r, b, o.ways[r.Intn(len(o.ways))])
			taped := clone(b)
			taped.Tapes = append(taped.Tapes, x)
			isNews(t, "Tape", newOracle(taped).snag(), taped)(frame.Tape(b, x))
		}
		if len(b.Sticks) < api.MaxFrameSticks {
			height := someHeight(r, b)
			x := stickAbout(r, height, at(b, o.ways[r.Intn(len(o.ways))], height))
			held := clone(b)
			held.Sticks = append(held.Sticks, x)
			isNews(t, "Stick", newOracle(held).snag(), held)(frame.Stick(b, x))
		}
	})
	if clashes[[2]int{1, 0}] < 20 || clashes[[2]int{0, 1}] < 20 || clashes[[2]int{0, 0}] < 100 || asked[true] < 100 || asked[false] < 20 || snags[api.Foul] < 50 || snags[api.Clear] < 50 {
		t.Error("the books are too much alike", clashes, asked, snags)
	}
}

// isNews tests a new book and its snag.
func isNews(t *testing.T, what string, want api.Snag, book api.FrameBook) func(now api.FrameBook, s api.Snag) {
	return func(now api.FrameBook, s api.Snag) {
		t.Helper()
		if want != api.Clear {
			book = api.FrameBook{}
		}
		if s != want || !reflect.DeepEqual(now, book) {
			t.Error(what, now, s, want)
		}
	}
}

// Each tape and stick is right about some frame of the spans, so that more of them clash together.
func TestP3_3ClashTogether(t *testing.T) {
	clashes, mixed := map[int]int{}, 0
	eachBook(t, 800, func(t *testing.T, b api.FrameBook, o *oracle, r *rand.Rand) {
		b.Tapes, b.Sticks = nil, nil
		for range api.MaxFrameTapes {
			l := o.ways[r.Intn(len(o.ways))]
			x := tapeAbout(r, b, l)
			x.Girth = one(girth(b, l, x.From, x.To))
			b.Tapes = append(b.Tapes, x)
		}
		for range api.MaxFrameSticks {
			height := someHeight(r, b)
			b.Sticks = append(b.Sticks, stickAbout(r, height, at(b, o.ways[r.Intn(len(o.ways))], height)))
		}
		o = newOracle(b)
		list, _ := o.clash()
		clashes[len(list)]++
		tapes, sticks, s := frame.Clash(b)
		if len(tapes) > 0 && len(sticks) > 0 {
			mixed++
		}
		for _, i := range sticks {
			tapes = append(tapes, i+len(b.Tapes))
		}
		if !slices.Equal(tapes, list) || s != api.Clear {
			t.Error(b, tapes, s, list)
		}
	})
	if clashes[0] < 20 || clashes[2] < 50 || clashes[3] < 10 || mixed < 30 {
		t.Error("the books are too much alike", clashes, mixed)
	}
}

// What is taped, held up or measured never adds a boat; see also TestP0_6KnowingMore.
func TestP3_9NothingIsAdded(t *testing.T) {
	tried := 0
	eachBook(t, 150, func(t *testing.T, b api.FrameBook, o *oracle, r *rand.Rand) {
		for _, now := range knowingMore(r, b) {
			tried++
			for _, l := range newOracle(now).boats {
				if !o.has(l) {
					t.Error(now, l)
				}
			}
		}
	})
	if tried < 200 {
		t.Error("too few books", tried)
	}
}

func TestP3_9Clash(t *testing.T) {
	tried := 0
	eachBook(t, 400, func(t *testing.T, b api.FrameBook, o *oracle, r *rand.Rand) {
		tapes, sticks, s := frame.Clash(b)
		if n, _ := frame.Boats(b); (n > 0) != (len(tapes)+len(sticks) == 0) || s != api.Clear {
			t.Error(tapes, sticks, n, s)
		}
		if len(tapes)+len(sticks) == 0 {
			return
		}
		tried++
		set := 0
		for _, i := range tapes {
			set |= 1 << i
		}
		for _, i := range sticks {
			set |= 1 << (i + len(b.Tapes))
		}
		alone, list := only(b, set)
		if n, s := frame.Boats(alone); n > 0 || s != api.Clear {
			t.Error("they do not clash", tapes, sticks, n)
		}
		for _, i := range list {
			fewer, _ := only(b, set&^(1<<i))
			if n, _ := frame.Boats(fewer); n == 0 {
				t.Error("one is needless", tapes, sticks, i)
			}
		}
		_, all := o.clash()
		for _, other := range all {
			if len(other) < len(list) {
				t.Error("fewer clash", tapes, sticks, other)
			}
		}
	})
	if tried < 40 {
		t.Error("too few clashes", tried)
	}
}

func TestP3_9Ask(t *testing.T) {
	eachBook(t, 200, func(t *testing.T, b api.FrameBook, o *oracle, r *rand.Rand) {
		point, left, s := frame.Ask(b)
		if s != api.Clear {
			return
		}
		for i, p := range b.Points {
			worst := 0
			for n := p.Breadth.Low; n <= p.Breadth.High; n++ {
				if now, s := frame.Measure(b, i, one(n)); s == api.Clear {
					many, _ := frame.Boats(now)
					worst = max(worst, many)
				}
			}
			if worst < left || i == point && worst != left || i < point && worst == left {
				t.Error(point, left, i, worst)
			}
		}
	})
}
