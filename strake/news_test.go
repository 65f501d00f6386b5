package strake_test

import (
	"math/rand"
	"reflect"
	"slices"
	"strings"
	"testing"

	"ribband/api"
	"ribband/strake"
)

func TestP5_3Examples(t *testing.T) {
	b := parse(t, textS)
	if frame, left, s := strake.Ask(b); frame != 0 || left != 2 || s != api.Clear {
		t.Error(frame, left, s)
	}
	now, s := strake.Measure(b, 0, one(6))
	if n, _ := strake.Boats(now); n != 2 || s != api.Clear {
		t.Error(now, n, s)
	}
	now, s = strake.Mark(b, mark(1, 0, one(4)))
	if n, _ := strake.Boats(now); n != 2 || s != api.Clear {
		t.Error(now, n, s)
	}
	b.Marks = append(b.Marks, mark(2, 1, one(1)))
	if l, s := strake.Clash(b); !slices.Equal(l, []int{1}) || s != api.Clear {
		t.Error(l, s)
	}
}

func TestP5_3Clash(t *testing.T) {
	for i, x := range []struct {
		text string
		want []int
		s    api.Snag
	}{
		{girthsS, nil, api.Clear},
		{textS, nil, api.Clear},
		{textC, []int{1}, api.Clear},
		{textN, nil, api.Scant}, // no girths are fair
		{"strake 2 2 4 1 9\ngirth 9\ngirth 9\nmark 0 0 1\n", nil, api.Scant}, // they are, but have no plan
		{girthsS + "mark 1 0 4\nmark 2 1 5\n", []int{1}, api.Clear},
		{girthsS + "mark 0 0 4\nmark 1 0 3\n", []int{0, 1}, api.Clear},
		{girthsS + "mark 0 0 2\nmark 2 0 4\nmark 1 0 4\n", []int{0, 2}, api.Clear},
		{girthsS + "mark 0 0 2\nmark 0 0 3\nmark 0 0 2\n", []int{0, 1}, api.Clear},    // of several lists the least one
		{girthsS + "mark 0 0 2\nmark 0 0 3\nmark 0 0 9\n", []int{2}, api.Clear},       // one is fewer than two
		{girthsS + "mark 1 0 3..4\nmark 0 0 2\nmark 1 0 4\n", []int{1, 2}, api.Clear}, // the first one is innocent
		{girthsS + "mark 0 0 2\nmark 0 0 2..4\nmark 0 1 2\n", []int{0, 2}, api.Clear}, // too narrow together
		{girthsS + "mark 0 0 2..3\nmark 1 1 3\nmark 2 0 2\n", []int{1, 2}, api.Clear}, // 4, 3 tapers too much
		{girthsS + "mark 0 1 3\nmark 1 1 3\nmark 2 1 2..3\n", nil, api.Clear},         //
		{"strake 3 1 3 0 9\ngirth 6\ngirth 6\nmark 0 0 1\nmark 1 1 3\nmark 0 2 1..2\n", nil, api.Clear},
		{"strake 3 1 3 0 9\ngirth 6\ngirth 6\nmark 0 0 1\nmark 1 1 3\nmark 0 2 1\n", []int{0, 2}, api.Clear},
		{"strake 3 2 5 1 9\ngirth 9\ngirth 10\nmark 0 0 2..3\nmark 0 1 2..3\nmark 1 2 5\n", nil, api.Clear},
		{"strake 3 1 2 0 9\ngirth 5\ngirth 5\nmark 0 0 2\nmark 1 1 2\nmark 0 2 2\n", []int{0, 1, 2}, api.Clear}, // only all together
	} {
		if l, s := strake.Clash(parse(t, x.text)); !slices.Equal(l, x.want) || s != x.s {
			t.Error(i, l, s)
		}
	}
}

func TestP5_3Ask(t *testing.T) {
	for i, x := range []struct {
		text        string
		frame, left int
		s           api.Snag
	}{
		{textS, 0, 2, api.Clear}, // the last frame would do as well
		{textS + "mark 1 0 4\n", 2, 1, api.Clear},
		{textO, 0, 1, api.Clear},
		{"strake 1 5 9 4 0\ngirth 5\ngirth 9\n", -1, 1, api.Clear},
		{"strake 1 5 9 0 0\ngirth 4..6\ngirth 6..8\n", -1, 1, api.Clear}, // one boat, for all of the girths
		{"strake 1 5 9 4 99\ngirth 5..6\ngirth 5..7\n", 1, 2, api.Clear},
		{"strake 1 5 9 4 99\ngirth 5..6\ngirth 5..6\ngirth 5\n", 0, 2, api.Clear},
		{"strake 1 5 9 4 99\ngirth 5\ngirth 5..7\ngirth 5..7\ngirth 5..6\n", 1, 6, api.Clear},
		{textC, 0, 0, api.Foul},
		{textN, 0, 0, api.Foul},
	} {
		if frame, left, s := strake.Ask(parse(t, x.text)); frame != x.frame || left != x.left || s != x.s {
			t.Error(i, frame, left, s)
		}
	}
}

func TestP5_3Mark(t *testing.T) {
	three := girthsS + strings.Repeat("mark 0 1 3\n", api.MaxStrakeMarks)
	for i, x := range []struct {
		text string
		m    api.StrakeMark
		want string
		s    api.Snag
	}{
		{textS, mark(1, 0, one(4)), textS + "mark 1 0 4\n", api.Clear},
		{textS, mark(2, 1, to(0, 20)), textS + "mark 2 1 0..20\n", api.Clear},
		{textS, mark(0, 1, one(3)), textS + "mark 0 1 3\n", api.Clear}, // once more
		{girthsS + strings.Repeat("mark 0 1 3\n", 2), mark(0, 1, one(3)), three, api.Clear},
		{textS, mark(2, 1, one(1)), "", api.Foul},
		{textS, mark(0, 1, one(4)), "", api.Foul},
		{textC, mark(0, 1, one(3)), "", api.Foul}, // there was no boat before
		{textN, mark(0, 1, one(3)), "", api.Foul},
		{textS, mark(3, 1, to(2, 1)), "", api.Absent},
		{textS, mark(-1, 1, one(3)), "", api.Absent},
		{textS, mark(0, 2, one(3)), "", api.Absent},
		{textS, mark(most, least, one(3)), "", api.Absent},
		{textS, mark(2, 1, to(2, 1)), "", api.Range},
		{textS, mark(2, 1, to(3, 21)), "", api.Range},
		{textS, mark(2, 1, to(-1, 3)), "", api.Range},
		{textS, mark(2, 1, to(least, most)), "", api.Range},
		{three, mark(0, 1, one(3)), "", api.Many},
		{three, mark(9, 9, to(2, 1)), "", api.Many}, // how many there are comes before each of them
	} {
		now, s := strake.Mark(parse(t, x.text), x.m)
		if text, _ := strake.Print(now); text != x.want || s != x.s {
			t.Error(i, text, s)
		}
	}
}

func TestP5_3Measure(t *testing.T) {
	for i, x := range []struct {
		frame int
		x     api.Span
		want  string
		s     api.Snag
	}{
		{0, one(6), strings.Replace(textS, "5..6", "6", 1), api.Clear},
		{0, to(0, 5), strings.Replace(textS, "5..6", "5", 1), api.Clear},
		{0, to(6, 99), strings.Replace(textS, "5..6", "6", 1), api.Clear},
		{0, to(5, 6), textS, api.Clear},
		{0, to(0, 99), textS, api.Clear},
		{1, one(7), textS, api.Clear},
		{2, to(3, 6), strings.Replace(textS, "6..7", "6", 1), api.Clear},
		{0, to(7, 99), "", api.Foul},
		{0, to(0, 4), "", api.Foul},
		{0, to(0, 100), "", api.Range},
		{0, to(-1, 6), "", api.Range},
		{0, to(6, 5), "", api.Range},
		{0, to(least, most), "", api.Range},
		{0, to(most, least), "", api.Range},
		{3, one(6), "", api.Absent},
		{3, to(2, 1), "", api.Absent},
		{-1, to(0, 100), "", api.Absent},
		{least, one(6), "", api.Absent},
		{most, one(6), "", api.Absent},
	} {
		now, s := strake.Measure(parse(t, textS), x.frame, x.x)
		if text, _ := strake.Print(now); text != x.want || s != x.s {
			t.Error(i, text, s)
		}
	}
	// the girth is left something, but no plan or no fair girths
	if now, s := strake.Measure(parse(t, textO), 0, one(3)); s != api.Foul || len(now.Girths) > 0 {
		t.Error(now, s)
	}
	b := parse(t, strings.Replace(textS, "6..7", "6", 1))
	if now, s := strake.Measure(b, 0, one(5)); s != api.Foul || len(now.Girths) > 0 {
		t.Error(now, s)
	}
}

func TestP5_3Everything(t *testing.T) {
	clashes, asked, snags := map[int]int{}, map[bool]int{}, map[api.Snag]int{}
	eachBook(t, 1000, func(t *testing.T, b api.StrakeBook, o *oracle, r *rand.Rand) {
		list, _, scant := o.clash()
		clashes[len(list)]++
		snags[scant]++
		if l, s := strake.Clash(b); !slices.Equal(l, list) || s != scant {
			t.Error("Clash", l, s, list, scant)
		}
		frame, left := o.ask()
		if len(o.boats) == 0 {
			frame, left = 0, 0
		}
		asked[left > 0 && frame >= 0]++
		if i, n, s := strake.Ask(b); i != frame || n != left || s != o.snag() {
			t.Error("Ask", i, n, s, frame, left)
		}
		frame = r.Intn(len(b.Girths))
		girth := b.Girths[frame]
		x := to(max(girth.Low+r.Intn(4)-1, 0), min(girth.High+r.Intn(2), api.MaxStrakeGirth))
		both := to(max(x.Low, girth.Low), min(x.High, girth.High))
		measured := clone(b)
		measured.Girths[frame] = both
		want := api.Clear
		switch {
		case x.Low > x.High:
			want = api.Range
		case both.Low > both.High || !hasBoat(measured):
			want = api.Foul
		}
		snags[want]++
		isNews(t, "Measure", want, measured)(strake.Measure(b, frame, x))
		if len(b.Marks) < api.MaxStrakeMarks {
			m := markAbout(r, randomPlan(r, b, len(b.Girths)))
			marked := clone(b)
			marked.Marks = append(marked.Marks, m)
			want := api.Clear
			if !hasBoat(marked) {
				want = api.Foul
			}
			isNews(t, "Mark", want, marked)(strake.Mark(b, m))
		}
	})
	if clashes[0] < 300 || clashes[1] < 50 || clashes[2] < 5 || asked[true] < 300 || asked[false] < 100 || snags[api.Foul] < 100 || snags[api.Clear] < 300 || snags[api.Scant] < 50 {
		t.Error("the books are too much alike", clashes, asked, snags)
	}
}

func hasBoat(b api.StrakeBook) bool {
	return slices.ContainsFunc(waysOf(b), func(g []int) bool { return isFair(b, g) && hasPlan(b, g) })
}

// isNews tests a new book and its snag.
func isNews(t *testing.T, what string, want api.Snag, book api.StrakeBook) func(now api.StrakeBook, s api.Snag) {
	return func(now api.StrakeBook, s api.Snag) {
		t.Helper()
		if want != api.Clear {
			if s != want || !reflect.DeepEqual(now, api.StrakeBook{}) {
				t.Error(what, now, s, want)
			}
			return
		}
		if s != want || printed(t, now) != printed(t, book) {
			t.Error(what, now, s, want)
		}
	}
}

// Each mark is right about some plan of fair girths, and many are about the same frame, so that more of them clash together.
func TestP5_3ClashTogether(t *testing.T) {
	clashes := map[int]int{}
	eachBook(t, 1500, func(t *testing.T, b api.StrakeBook, o *oracle, r *rand.Rand) {
		b.Marks = nil
		o = newOracle(b)
		if len(o.boats) == 0 {
			return
		}
		frame, strakes := r.Intn(len(b.Girths)), r.Perm(b.Strakes)
		for i := range api.MaxStrakeMarks {
			plans := o.plans[r.Intn(len(o.boats))]
			p := plans[r.Intn(len(plans))]
			if i >= b.Strakes {
				frame = r.Intn(len(b.Girths))
			}
			n := strakes[i%b.Strakes]
			b.Marks = append(b.Marks, mark(frame, n, one(p[frame][n])))
		}
		o.book = b
		list, _, _ := o.clash()
		clashes[len(list)]++
		if l, s := strake.Clash(b); !slices.Equal(l, list) || s != api.Clear {
			t.Error(b, l, s, list)
		}
	})
	if clashes[0] < 100 || clashes[1] > 0 || clashes[2] < 100 || clashes[3] < 20 {
		t.Error("the books are too much alike", clashes)
	}
}

// What is marked or measured never adds a boat or a plan; see also TestP0_6KnowingMore.
func TestP5_9NothingIsAdded(t *testing.T) {
	tried := 0
	eachBook(t, 200, func(t *testing.T, b api.StrakeBook, o *oracle, r *rand.Rand) {
		for _, now := range knowingMore(r, b) {
			for _, g := range waysOf(b) {
				if is, _ := strake.IsBoat(now, g); is && !o.has(g) {
					t.Error(now, g)
				}
				plans := plansOf(now, g)
				many, _ := strake.Plans(b, g)
				if n, _ := strake.Plans(now, g); n > many {
					t.Error("Plans", now, g, many, n)
				}
				for _, p := range plans[:min(len(plans), 5)] {
					tried++
					if is, s := strake.IsPlan(b, g, p); !is || s != api.Clear {
						t.Error("IsPlan", now, g, p, is, s)
					}
				}
			}
		}
	})
	if tried < 1000 {
		t.Error("too few plans", tried)
	}
}

// Marks that clash do so alone, and no fewer do.
func TestP5_9Clash(t *testing.T) {
	tried := 0
	eachBook(t, 600, func(t *testing.T, b api.StrakeBook, o *oracle, r *rand.Rand) {
		list, s := strake.Clash(b)
		if n, _ := strake.Boats(b); (n > 0) != (len(list) == 0 && s == api.Clear) {
			t.Error(list, n, s)
		}
		if len(list) == 0 {
			return
		}
		tried++
		set := 0
		for _, i := range list {
			set |= 1 << i
		}
		alone, _ := only(b, set)
		if n, s := strake.Boats(alone); n > 0 || s != api.Clear {
			t.Error("they do not clash", list, n)
		}
		for set := range 1 << len(b.Marks) {
			fewer, some := only(b, set)
			if n, _ := strake.Boats(fewer); n == 0 && isLess(some, list) {
				t.Error("fewer clash", list, some)
			}
		}
	})
	if tried < 60 {
		t.Error("too few clashes", tried)
	}
}

// Once the girth that is asked for is known no more boats are left than is said, and no other girth leaves fewer.
func TestP5_9Ask(t *testing.T) {
	eachBook(t, 300, func(t *testing.T, b api.StrakeBook, o *oracle, r *rand.Rand) {
		frame, left, s := strake.Ask(b)
		if s != api.Clear {
			return
		}
		for i, x := range b.Girths {
			worst := 0
			for n := x.Low; n <= x.High; n++ {
				if now, s := strake.Measure(b, i, one(n)); s == api.Clear {
					many, _ := strake.Boats(now)
					worst = max(worst, many)
				}
			}
			if worst < left || i == frame && worst != left || i < frame && worst == left {
				t.Error(frame, left, i, worst)
			}
		}
	})
}
