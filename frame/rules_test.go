package frame_test

import (
	"math/rand"
	"reflect"
	"slices"
	"strings"
	"sync"
	"testing"

	"ribband/api"
	"ribband/frame"
)

func row(results ...any) []any { return results }

// breadthsCalls calls each function that has breadths among its arguments; the results come with the snag last.
func breadthsCalls(b api.FrameBook, l []int, height, from, to int) [][]any {
	return [][]any{
		row(frame.At(b, l, height)),
		row(frame.Girth(b, l, from, to)),
		row(frame.Area(b, l)),
		row(frame.Inner(b, l)),
		row(frame.IsBoat(b, l)),
	}
}

// news is what is asked about a book, or becomes known.
type news struct {
	point, from, to, height, long int
	x                             api.Span
	tape                          api.FrameTape
	stick                         api.FrameStick
}

// otherCalls calls each other function that has a book among its arguments.
func otherCalls(b api.FrameBook, n news) [][]any {
	return [][]any{
		row(frame.CheckBook(b)),
		row(frame.Boats(b)),
		row(frame.Breadths(b, n.point)),
		row(frame.Between(b, n.height)),
		row(frame.Girths(b, n.from, n.to)),
		row(frame.Areas(b)),
		row(frame.Clears(b, n.height, n.long)),
		row(frame.Leanest(b)),
		row(frame.Clash(b)),
		row(frame.Ask(b)),
		row(frame.Tape(b, n.tape)),
		row(frame.Stick(b, n.stick)),
		row(frame.Measure(b, n.point, n.x)),
		row(frame.Print(b)),
	}
}

func isZero(v any) bool {
	r := reflect.ValueOf(v)
	return r.IsZero() || r.Kind() == reflect.Slice && r.Len() == 0
}

func snagOf(t *testing.T, results []any) api.Snag {
	t.Helper()
	last := len(results) - 1
	s := results[last].(api.Snag)
	if s != api.Clear && slices.ContainsFunc(results[:last], func(v any) bool { return !isZero(v) }) {
		t.Error("with a snag there is a result", results)
	}
	return s
}

var strange = []int{least, -1000, -1, 0, 1, 2, 3, 4, 5, 20, 21, 959, 960, 9999, 10000, 1 << 40, most}

func pick(r *rand.Rand) int { return strange[r.Intn(len(strange))] }

func strangeNews(r *rand.Rand) news {
	return news{
		point: pick(r), from: pick(r), to: pick(r), height: pick(r), long: pick(r), x: to(pick(r), pick(r)),
		tape:  api.FrameTape{From: pick(r), To: pick(r), Girth: to(pick(r), pick(r))},
		stick: api.FrameStick{Height: pick(r), Long: pick(r), Fits: r.Intn(2) == 0},
	}
}

// likelyNews is what a book often has an answer to.
func likelyNews(r *rand.Rand, b api.FrameBook) news {
	height, point := someHeight(r, b), r.Intn(len(b.Points))
	l := newOracle(b).ways[0]
	return news{
		point: point, from: 0, to: 1 + r.Intn(len(b.Points)-1), height: height, long: at(b, l, height) + r.Intn(2), x: b.Points[point].Breadth,
		tape: tapeAbout(r, b, l), stick: stickAbout(r, height, at(b, l, height)),
	}
}

func strangeBook(r *rand.Rand) api.FrameBook {
	b := randomBook(r)
	point := &b.Points[r.Intn(len(b.Points))]
	switch r.Intn(9) {
	case 0:
		b.Plank = pick(r)
	case 1:
		point.Height = pick(r)
	case 2:
		point.Breadth = to(pick(r), pick(r))
	case 3:
		b.Tapes = append(b.Tapes, api.FrameTape{From: pick(r), To: pick(r), Girth: to(pick(r), pick(r))})
	case 4:
		b.Tapes = append(b.Tapes, api.FrameTape{From: r.Intn(3), To: r.Intn(3), Girth: to(r.Intn(3), r.Intn(3))})
	case 5:
		b.Sticks = append(b.Sticks, api.FrameStick{Height: pick(r), Long: pick(r)})
	case 6:
		b.Points = append(b.Points, make([]api.FramePoint, r.Intn(4))...)
	case 7:
		b.Points = b.Points[:r.Intn(len(b.Points))]
	case 8:
		b.Tapes = append(b.Tapes, make([]api.FrameTape, r.Intn(4))...)
	}
	return b
}

func TestP0_1Always(t *testing.T) {
	r := rand.New(rand.NewSource(1))
	for range 1500 {
		b, n := strangeBook(r), strangeNews(r)
		if r.Intn(3) == 0 {
			b = randomBook(r)
			if r.Intn(2) == 0 {
				n = likelyNews(r, b)
			}
		}
		l := randomBreadths(r, b)
		if len(l) > 0 && r.Intn(3) == 0 {
			l = append(l[:r.Intn(len(l))], pick(r))
		}
		was, list := clone(b), slices.Clone(l)
		one := append(breadthsCalls(b, l, n.height, n.from, n.to), otherCalls(b, n)...)
		two := append(breadthsCalls(b, l, n.height, n.from, n.to), otherCalls(b, n)...)
		if !reflect.DeepEqual(one, two) || !reflect.DeepEqual(b, was) || !slices.Equal(l, list) {
			t.Fatal(b, l, n)
		}
	}
	for _, n := range strange {
		one, s := frame.Root(n)
		if two, a := frame.Root(n); one != two || s != a {
			t.Error(n, one, two, s, a)
		}
	}
	long := api.FrameBook{Points: make([]api.FramePoint, 1<<20), Tapes: make([]api.FrameTape, 1<<20), Sticks: make([]api.FrameStick, 1<<20)}
	if s := frame.CheckBook(long); s != api.Many {
		t.Error(s)
	}
	long.Points = parse(t, textF).Points
	if s := frame.CheckBook(long); s != api.Many {
		t.Error(s)
	}
	long.Tapes = nil
	if s := frame.CheckBook(long); s != api.Many {
		t.Error(s)
	}
}

func TestP0_1Together(t *testing.T) {
	f, foul := parse(t, textF), parse(t, textC)
	r := rand.New(rand.NewSource(1))
	n := likelyNews(r, f)
	all := func() [][]any {
		return slices.Concat(breadthsCalls(f, []int{3, 6, 12}, 8, 0, 2), otherCalls(f, n), otherCalls(foul, n))
	}
	want := all()
	var group sync.WaitGroup
	for range 16 {
		group.Add(1)
		go func() {
			defer group.Done()
			for range 30 {
				if got := all(); !reflect.DeepEqual(got, want) {
					t.Error(got)
				}
			}
		}()
	}
	group.Wait()
}

// The book's snag comes first, and with a snag all other results are zero.
func TestP0_2Snags(t *testing.T) {
	r := rand.New(rand.NewSource(3))
	seen := map[api.Snag]int{}
	for range 2000 {
		b := strangeBook(r)
		want := frame.CheckBook(b)
		seen[want]++
		n := strangeNews(r)
		for i, results := range append(breadthsCalls(b, randomBreadths(r, b), n.height, n.from, n.to), otherCalls(b, n)...) {
			if s := snagOf(t, results); want != api.Clear && s != want {
				t.Fatal(i, b, s)
			}
		}
	}
	for _, s := range []api.Snag{api.Clear, api.Range, api.Many, api.Absent, api.Turned} {
		if seen[s] < 20 {
			t.Error("the books are too much alike", seen)
		}
	}
}

// The snag of breadths comes before that of points, that before what is said of a function, and that before Foul.
func TestP0_2Order(t *testing.T) {
	none := parse(t, textC)
	bad := clone(none)
	bad.Tapes[0].To = 0
	for i, x := range []struct {
		results []any
		want    api.Snag
	}{
		{row(frame.At(bad, nil, 99)), api.Turned},
		{row(frame.At(none, []int{3, 6}, 99)), api.Many},
		{row(frame.At(none, []int{3, 6, 12}, 99)), api.Range},
		{row(frame.At(none, []int{3, 6, 12}, 8)), api.Clear},
		{row(frame.Girth(none, []int{3, 6}, 3, 3)), api.Many},
		{row(frame.Girth(none, []int{3, 6, 960}, 3, 3)), api.Range},
		{row(frame.Girth(none, []int{3, 6, 12}, 3, 3)), api.Absent},
		{row(frame.Girth(none, []int{3, 6, 12}, 2, 2)), api.Turned},
		{row(frame.Girth(none, []int{3, 6, 12}, 0, 1)), api.Clear},
		{row(frame.Area(none, []int{3, 6, 12})), api.Clear},
		{row(frame.Inner(none, []int{3, 6, 12})), api.Clear},
		{row(frame.IsBoat(none, []int{3, 6, 12})), api.Clear},
		{row(frame.Boats(none)), api.Clear},
		{row(frame.Breadths(none, -1)), api.Absent},
		{row(frame.Breadths(none, 3)), api.Absent},
		{row(frame.Breadths(none, most)), api.Absent},
		{row(frame.Breadths(none, 2)), api.Foul},
		{row(frame.Between(none, 13)), api.Range},
		{row(frame.Between(none, -1)), api.Range},
		{row(frame.Between(none, 12)), api.Foul},
		{row(frame.Girths(none, 1, 3)), api.Absent},
		{row(frame.Girths(none, 3, 1)), api.Absent},
		{row(frame.Girths(none, -1, -1)), api.Absent},
		{row(frame.Girths(none, 1, 1)), api.Turned},
		{row(frame.Girths(none, 2, 1)), api.Turned},
		{row(frame.Girths(none, 0, 1)), api.Foul},
		{row(frame.Areas(none)), api.Foul},
		{row(frame.Clears(none, 13, 5)), api.Range},
		{row(frame.Clears(none, -1, 5)), api.Range},
		{row(frame.Clears(none, 8, 960)), api.Range},
		{row(frame.Clears(none, 8, -1)), api.Range},
		{row(frame.Clears(none, 8, 959)), api.Foul},
		{row(frame.Clears(none, 0, 0)), api.Foul},
		{row(frame.Leanest(none)), api.Foul},
		{row(frame.Clash(none)), api.Clear},
		{row(frame.Ask(none)), api.Foul},
		{row(frame.Tape(none, api.FrameTape{From: 3, To: 3, Girth: to(1, 0)})), api.Absent},
		{row(frame.Tape(none, api.FrameTape{From: 2, To: 2, Girth: to(1, 0)})), api.Turned},
		{row(frame.Tape(none, api.FrameTape{From: 1, To: 2, Girth: to(1, 0)})), api.Range},
		{row(frame.Tape(none, api.FrameTape{From: 1, To: 2, Girth: to(0, 9999)})), api.Foul},
		{row(frame.Tape(bad, api.FrameTape{From: 3})), api.Turned},
		{row(frame.Stick(none, api.FrameStick{Height: 13})), api.Range},
		{row(frame.Stick(none, api.FrameStick{Height: 12, Fits: true})), api.Foul},
		{row(frame.Stick(bad, api.FrameStick{Height: 13})), api.Turned},
		{row(frame.Measure(none, 3, to(1, 0))), api.Absent},
		{row(frame.Measure(none, -1, to(0, 960))), api.Absent},
		{row(frame.Measure(none, 1, to(0, 960))), api.Range},
		{row(frame.Measure(none, 1, to(1, 0))), api.Range},
		{row(frame.Measure(none, 1, one(0))), api.Foul},
		{row(frame.Measure(none, 1, one(6))), api.Foul},
		{row(frame.Measure(bad, 3, one(6))), api.Turned},
		{row(frame.Print(none)), api.Clear},
		{row(frame.Print(bad)), api.Turned},
	} {
		if s := snagOf(t, x.results); s != x.want {
			t.Error(i, s)
		}
	}
}

// It makes no difference whether a slice is nil or empty (R3).
func TestEmpty(t *testing.T) {
	b := parse(t, pointsF)
	e := clone(b)
	e.Tapes, e.Sticks = []api.FrameTape{}, []api.FrameStick{}
	n := news{to: 1, tape: api.FrameTape{To: 1, Girth: one(5)}, stick: api.FrameStick{Long: 3, Fits: true}, x: one(3)}
	one := append(breadthsCalls(b, nil, 0, 0, 1), otherCalls(b, n)...)
	two := append(breadthsCalls(e, []int{}, 0, 0, 1), otherCalls(e, n)...)
	for i := range one {
		for k := range one[i] {
			x, ok := one[i][k].(api.FrameBook)
			if y, _ := two[i][k].(api.FrameBook); ok {
				if !slices.Equal(x.Points, y.Points) || !slices.Equal(x.Tapes, y.Tapes) || !slices.Equal(x.Sticks, y.Sticks) {
					t.Error(i, x, y)
				}
			} else if isZero(one[i][k]) != isZero(two[i][k]) || !isZero(one[i][k]) && !reflect.DeepEqual(one[i][k], two[i][k]) {
				t.Error(i, k, one[i], two[i])
			}
		}
	}
	if s := frame.CheckBook(api.FrameBook{Points: []api.FramePoint{}}); s != api.Many {
		t.Error(s)
	}
}

// spoil changes all memory of a book.
func spoil(b api.FrameBook) {
	for i := range b.Points[:cap(b.Points)] {
		b.Points[:cap(b.Points)][i] = api.FramePoint{Height: -7}
	}
	for i := range b.Tapes[:cap(b.Tapes)] {
		b.Tapes[:cap(b.Tapes)][i] = api.FrameTape{From: -7}
	}
	for i := range b.Sticks[:cap(b.Sticks)] {
		b.Sticks[:cap(b.Sticks)][i] = api.FrameStick{Height: -7}
	}
}

// No argument is changed, and no result shares memory with one (R4).
func TestMemory(t *testing.T) {
	for i, change := range []func(b api.FrameBook) (api.FrameBook, api.Snag){
		func(b api.FrameBook) (api.FrameBook, api.Snag) { return frame.Measure(b, 1, one(7)) },
		func(b api.FrameBook) (api.FrameBook, api.Snag) { return frame.Measure(b, 1, to(0, 959)) },
		func(b api.FrameBook) (api.FrameBook, api.Snag) {
			return frame.Tape(b, api.FrameTape{From: 1, To: 2, Girth: to(9, 10)})
		},
		func(b api.FrameBook) (api.FrameBook, api.Snag) {
			return frame.Stick(b, api.FrameStick{Height: 8, Long: 10})
		},
	} {
		b := parse(t, textF)
		b.Points = append(make([]api.FramePoint, 0, 9), b.Points...)
		b.Tapes = append(make([]api.FrameTape, 0, 9), b.Tapes...)
		b.Sticks = append(make([]api.FrameStick, 0, 9), b.Sticks...)
		now, s := change(b)
		if s != api.Clear || printed(t, b) != textF {
			t.Fatal(i, s, b)
		}
		after := printed(t, now)
		spoil(now)
		if printed(t, b) != textF {
			t.Error(i, b)
		}
		now, _ = change(b)
		spoil(b)
		if printed(t, now) != after {
			t.Error(i, now)
		}
	}
	b, l := parse(t, textC), []int{3, 6, 12}
	inner, _ := frame.Inner(b, l)
	tapes, sticks, _ := frame.Clash(b)
	for _, list := range [][]int{inner, tapes, sticks} {
		for i := range list {
			list[i] = -7
		}
	}
	if printed(t, b) != textC || !slices.Equal(l, []int{3, 6, 12}) {
		t.Error(b, l)
	}
}

// What is printed is parsed as an equal book, with or without its last line feed.
func TestP0_3Texts(t *testing.T) {
	eachBook(t, 300, func(t *testing.T, b api.FrameBook, o *oracle, r *rand.Rand) {
		text := printed(t, b)
		for _, s := range []string{text, strings.TrimSuffix(text, "\n")} {
			if now := parse(t, s); !reflect.DeepEqual(now, b) {
				t.Error(now)
			}
		}
	})
}

// A frame that is really there is a boat of each book that is right about it, and all that books tell of it is so.
func TestP0_4WhateverSheIs(t *testing.T) {
	eachBook(t, 80, func(t *testing.T, b api.FrameBook, o *oracle, r *rand.Rand) {
		for _, l := range o.boats[:min(len(o.boats), 8)] {
			books := []api.FrameBook{b}
			learn := func(what string, now api.FrameBook, s api.Snag) {
				if s != api.Clear {
					t.Fatal(what, books[len(books)-1], l, s)
				}
				books = append(books, now)
			}
			for point, n := range l {
				now, s := frame.Measure(books[len(books)-1], point, to(max(n-r.Intn(3), 0), min(n+r.Intn(3), api.MaxFrameMeasure)))
				learn("Measure", now, s)
			}
			if len(b.Tapes) < api.MaxFrameTapes {
				now, s := frame.Tape(books[len(books)-1], tapeAbout(r, b, l))
				learn("Tape", now, s)
			}
			if len(b.Sticks) < api.MaxFrameSticks {
				height := someHeight(r, b)
				now, s := frame.Stick(books[len(books)-1], stickAbout(r, height, at(b, l, height)))
				learn("Stick", now, s)
			}
			for _, x := range books {
				tellsRight(t, r, x, l)
			}
		}
	})
}

// tellsRight tests that all that a book tells is so of a frame that is one of its boats.
func tellsRight(t *testing.T, r *rand.Rand, b api.FrameBook, l []int) {
	t.Helper()
	within := func(what string, x api.Span, n int) {
		t.Helper()
		if n < x.Low || n > x.High {
			t.Error(what, b, l, n, x)
		}
	}
	if is, s := frame.IsBoat(b, l); !is || s != api.Clear {
		t.Error("IsBoat", b, l, is, s)
	}
	for point, n := range l {
		if list, _ := frame.Breadths(b, point); !slices.Contains(list, n) {
			t.Error("Breadths", b, l, point, list)
		}
	}
	for _, height := range heights(r, b) {
		n := at(b, l, height)
		x, _ := frame.Between(b, height)
		within("Between", x, n)
		for long := max(n-1, 0); long <= min(n+1, api.MaxFrameMeasure); long++ {
			if sure, _ := frame.Clears(b, height, long); sure == api.Yes && n < long || sure == api.No && n >= long {
				t.Error("Clears", b, l, height, long, sure)
			}
		}
	}
	eachStretch(b, func(from, to int) {
		x, _ := frame.Girths(b, from, to)
		within("Girths", x, girth(b, l, from, to))
	})
	x, _ := frame.Areas(b)
	within("Areas", x, area(b, l))
	if _, n, _ := frame.Leanest(b); n > area(b, l) {
		t.Error("Leanest", b, l, n)
	}
	if tapes, sticks, s := frame.Clash(b); len(tapes)+len(sticks) > 0 || s != api.Clear {
		t.Error("Clash", b, l, tapes, sticks, s)
	}
}

// What becomes known makes nothing possible that was not, and takes back nothing that was sure.
func TestP0_6KnowingMore(t *testing.T) {
	eachBook(t, 150, func(t *testing.T, b api.FrameBook, o *oracle, r *rand.Rand) {
		for _, now := range knowingMore(r, b) {
			knowsMore(t, r, b, now)
		}
	})
}

// knowingMore returns books of which something more is known.
func knowingMore(r *rand.Rand, b api.FrameBook) (books []api.FrameBook) {
	ways := newOracle(b).ways
	for range 4 {
		l := ways[r.Intn(len(ways))]
		point, height := r.Intn(len(l)), someHeight(r, b)
		if now, s := frame.Measure(b, point, to(l[point], min(l[point]+r.Intn(2), api.MaxFrameMeasure))); s == api.Clear {
			books = append(books, now)
		}
		if now, s := frame.Tape(b, tapeAbout(r, b, l)); s == api.Clear {
			books = append(books, now)
		}
		if now, s := frame.Stick(b, stickAbout(r, height, at(b, l, height))); s == api.Clear {
			books = append(books, now)
		}
	}
	return books
}

func knowsMore(t *testing.T, r *rand.Rand, b, now api.FrameBook) {
	t.Helper()
	inside := func(what string, x, y api.Span) {
		t.Helper()
		if y.Low < x.Low || y.High > x.High {
			t.Error(what, b, now, x, y)
		}
	}
	many, _ := frame.Boats(b)
	if n, _ := frame.Boats(now); n > many || n == 0 {
		t.Error("Boats", b, now, many, n)
	}
	for _, boat := range newOracle(now).boats {
		if is, _ := frame.IsBoat(b, boat); !is {
			t.Error("IsBoat", b, now, boat)
		}
	}
	for point := range b.Points {
		before, _ := frame.Breadths(b, point)
		after, _ := frame.Breadths(now, point)
		for _, n := range after {
			if !slices.Contains(before, n) {
				t.Error("Breadths", b, now, point, n)
			}
		}
	}
	for _, height := range heights(r, b) {
		x, _ := frame.Between(b, height)
		y, _ := frame.Between(now, height)
		inside("Between", x, y)
		for long := max(x.Low-1, 0); long <= min(x.High+1, api.MaxFrameMeasure); long++ {
			before, _ := frame.Clears(b, height, long)
			if after, _ := frame.Clears(now, height, long); before != api.Open && after != before {
				t.Error("Clears", b, now, height, long, before, after)
			}
		}
	}
	eachStretch(b, func(from, to int) {
		x, _ := frame.Girths(b, from, to)
		y, _ := frame.Girths(now, from, to)
		inside("Girths", x, y)
	})
	x, _ := frame.Areas(b)
	y, _ := frame.Areas(now)
	inside("Areas", x, y)
	_, before, _ := frame.Leanest(b)
	if _, after, _ := frame.Leanest(now); after < before {
		t.Error("Leanest", b, now, before, after)
	}
}
