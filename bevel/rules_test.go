package bevel_test

import (
	"math/rand"
	"reflect"
	"slices"
	"strings"
	"sync"
	"testing"

	"ribband/api"
	"ribband/bevel"
)

// call is a function that was called; its results come with the snag last.
type call struct {
	name    string
	results []any
}

func row(results ...any) []any { return results }

// news is what is asked about a book, or becomes known.
type news struct {
	frame, to, reading int
	offsets, wrong     []int
	x                  api.Span
	read               api.BevelReading
}

// calls calls each function that has a book among its arguments.
func calls(b api.BevelBook, n news) []call {
	return []call{
		{"CheckBook", row(bevel.CheckBook(b))},
		{"Bevels", row(bevel.Bevels(b, n.offsets))},
		{"IsBoat", row(bevel.IsBoat(b, n.offsets, n.wrong))},
		{"Boats", row(bevel.Boats(b))},
		{"Offsets", row(bevel.Offsets(b, n.frame))},
		{"At", row(bevel.At(b, n.frame))},
		{"Stands", row(bevel.Stands(b, n.frame))},
		{"Alike", row(bevel.Alike(b, n.frame, n.to-1))},
		{"Follows", row(bevel.Follows(b, n.frame, n.to))},
		{"Breaks", row(bevel.Breaks(b))},
		{"Passes", row(bevel.Passes(b, n.frame, n.to))},
		{"Wrong", row(bevel.Wrong(b, n.reading))},
		{"Fewest", row(bevel.Fewest(b))},
		{"Clash", row(bevel.Clash(b))},
		{"Ask", row(bevel.Ask(b))},
		{"Measure", row(bevel.Measure(b, n.frame, n.x))},
		{"Read", row(bevel.Read(b, n.read))},
		{"Drop", row(bevel.Drop(b, n.reading))},
		{"Print", row(bevel.Print(b))},
	}
}

func isZero(v any) bool {
	r := reflect.ValueOf(v)
	return r.IsZero() || r.Kind() == reflect.Slice && r.Len() == 0
}

// snagOf returns the snag of results, which are zero if there is one.
func snagOf(t *testing.T, results []any) api.Snag {
	t.Helper()
	last := len(results) - 1
	s := results[last].(api.Snag)
	if s != api.Clear && slices.ContainsFunc(results[:last], func(v any) bool { return !isZero(v) }) {
		t.Error("with a snag there is a result", results)
	}
	return s
}

var strange = []int{least, -100000, -99999, -960, -4, -3, -1, 0, 1, 2, 3, 4, 5, 6, 7, 10, 12, 99, 100, 959, 960, 999, 1000, 99999, 100000, 1 << 40, most}

func pick(r *rand.Rand) int { return strange[r.Intn(len(strange))] }

func strangeList(r *rand.Rand) (list []int) {
	for range r.Intn(7) {
		list = append(list, pick(r))
	}
	return list
}

func strangeNews(r *rand.Rand) news {
	return news{pick(r), pick(r), pick(r), strangeList(r), strangeList(r), to(pick(r), pick(r)), reading(pick(r), to(pick(r), pick(r)))}
}

// likelyNews is what a book often has an answer to.
func likelyNews(r *rand.Rand, b api.BevelBook) news {
	n := news{frame: r.Intn(len(b.Offsets) - 1), reading: r.Intn(len(b.Readings) + 1), offsets: randomOffsets(r, b), wrong: randomWrong(r, b)}
	n.to = n.frame + 1 + r.Intn(len(b.Offsets)-1-n.frame)
	n.x, n.read = around(r, n.offsets[n.frame], 0, api.MaxBevelOffset), readingOf(r, bevelsOf(b, n.offsets))
	return n
}

func strangeBook(r *rand.Rand) api.BevelBook {
	b := randomBook(r)
	n := strangeNews(r)
	frame := r.Intn(len(b.Offsets))
	switch r.Intn(10) {
	case 0:
		*[]*int{&b.Run, &b.Scale, &b.Follow, &b.Bite, &b.Wrong}[r.Intn(5)] = pick(r)
	case 1:
		b.Offsets[frame] = n.x
	case 2:
		b.Offsets = append(b.Offsets, b.Offsets[frame])
	case 3:
		b.Offsets = append(b.Offsets, make([]api.Span, r.Intn(5))...)
	case 4:
		b.Offsets = b.Offsets[:frame]
	case 5, 6:
		b.Readings = append(b.Readings, n.read)
	case 7:
		b.Readings = append(b.Readings, make([]api.BevelReading, r.Intn(5))...)
	case 8:
		for i := range b.Readings {
			b.Readings[i].Bevel = n.x
		}
	case 9:
		for i := range b.Readings {
			b.Readings[i].Frame = len(b.Offsets) - r.Intn(3)
		}
	}
	return b
}

func TestP0_1Always(t *testing.T) {
	r := rand.New(rand.NewSource(1))
	for range 1200 {
		b, n := strangeBook(r), strangeNews(r)
		if r.Intn(3) == 0 {
			b = randomBook(r)
			if r.Intn(2) == 0 {
				n = likelyNews(r, b)
			}
		}
		was, with := clone(b), n
		with.offsets, with.wrong = slices.Clone(n.offsets), slices.Clone(n.wrong)
		if !reflect.DeepEqual(calls(b, n), calls(b, n)) || !reflect.DeepEqual(b, was) || !reflect.DeepEqual(n, with) {
			t.Fatal(b, n)
		}
	}
	for _, text := range []string{"", "\x00", "bevel", "bevel 1 1 1 1 1\noffset", strings.Repeat("\xff ", 9), strings.Repeat("reading 0..", 999), "bevel 1 1 1 1 1\n" + strings.Repeat("offset 1\n", 999), "bevel 1 1 1 1 1\nreading " + strings.Repeat("9", 9999) + " 1\n"} {
		b, line, s := bevel.Parse(text)
		if c, other, again := bevel.Parse(text); s == api.Clear || other != line || again != s || !reflect.DeepEqual(b, c) {
			t.Errorf("%.60q: %v %v", text, line, s)
		}
	}
	long, many := parse(t, textE), make([]int, 1<<20)
	if l, s := bevel.Bevels(long, many); len(l) > 0 || s != api.Many {
		t.Error(l, s)
	}
	if is, s := bevel.IsBoat(long, many, many); is || s != api.Many {
		t.Error(is, s)
	}
	if is, s := bevel.IsBoat(long, many[:4], many); is || s != api.Turned {
		t.Error(is, s)
	}
	long.Readings = make([]api.BevelReading, 1<<20)
	if s := bevel.CheckBook(long); s != api.Many {
		t.Error(s)
	}
	long.Offsets = make([]api.Span, 1<<20)
	if s := bevel.CheckBook(long); s != api.Many {
		t.Error(s)
	}
}

func TestP0_1Together(t *testing.T) {
	b, wide, foul := parse(t, textE), parse(t, textD), parse(t, textC)
	n := news{frame: 1, to: 3, reading: 1, offsets: list(10, 12, 14, 14), wrong: list(0), x: one(12), read: reading(2, one(0))}
	all := func() []call { return slices.Concat(calls(b, n), calls(wide, n), calls(foul, n)) }
	want := all()
	var group sync.WaitGroup
	for range 16 {
		group.Add(1)
		go func() {
			defer group.Done()
			for range 30 {
				if got := all(); !reflect.DeepEqual(got, want) {
					t.Error(got)
				}
			}
		}()
	}
	group.Wait()
}

// The book's snag comes first, and with a snag all other results are zero.
func TestP0_2Snags(t *testing.T) {
	r := rand.New(rand.NewSource(3))
	seen := map[api.Snag]int{}
	for range 2000 {
		b := strangeBook(r)
		want := bevel.CheckBook(b)
		seen[want]++
		for _, c := range calls(b, strangeNews(r)) {
			if s := snagOf(t, c.results); want != api.Clear && s != want {
				t.Fatal(c, b, s)
			}
		}
	}
	for _, s := range []api.Snag{api.Clear, api.Range, api.Many, api.Absent} {
		if seen[s] < 30 {
			t.Error("the books are too much alike", seen)
		}
	}
}

// The snags of what is handed in come before what is said of a function, and that before Foul.
func TestP0_2Order(t *testing.T) {
	foul := parse(t, textC)
	full := parse(t, textF+strings.Repeat("reading 0 0\n", api.MaxBevelReadings))
	bad := clone(foul)
	bad.Bite = 0
	good := list(10, 12, 14, 14)
	for i, x := range []struct {
		results []any
		want    api.Snag
	}{
		{row(bevel.CheckBook(foul)), api.Clear},
		{row(bevel.CheckBook(bad)), api.Range},
		{row(bevel.Bevels(bad, nil)), api.Range},
		{row(bevel.Bevels(foul, list(10, 960))), api.Many},
		{row(bevel.Bevels(foul, list(10, 12, 14, 960))), api.Range},
		{row(bevel.Bevels(foul, good)), api.Clear},
		{row(bevel.IsBoat(bad, nil, list(9))), api.Range},
		{row(bevel.IsBoat(foul, list(10, 960), list(9))), api.Many},
		{row(bevel.IsBoat(foul, list(10, 12, 14, 960), list(9))), api.Range},
		{row(bevel.IsBoat(foul, good, list(9))), api.Absent},
		{row(bevel.IsBoat(foul, good, list(1, 0))), api.Turned},
		{row(bevel.IsBoat(foul, good, nil)), api.Clear},
		{row(bevel.Boats(bad)), api.Range},
		{row(bevel.Boats(foul)), api.Clear},
		{row(bevel.Offsets(bad, 4)), api.Range},
		{row(bevel.Offsets(foul, 4)), api.Absent},
		{row(bevel.Offsets(foul, 3)), api.Foul},
		{row(bevel.At(bad, 3)), api.Range},
		{row(bevel.At(foul, 3)), api.Absent},
		{row(bevel.At(foul, 2)), api.Foul},
		{row(bevel.Stands(bad, 3)), api.Range},
		{row(bevel.Stands(foul, 3)), api.Absent},
		{row(bevel.Stands(foul, 2)), api.Foul},
		{row(bevel.Alike(bad, 3, 3)), api.Range},
		{row(bevel.Alike(foul, 0, 3)), api.Absent},
		{row(bevel.Alike(foul, 3, 0)), api.Absent},
		{row(bevel.Alike(foul, 2, 2)), api.Foul},
		{row(bevel.Alike(foul, 2, 1)), api.Foul},
		{row(bevel.Follows(bad, 4, 0)), api.Range},
		{row(bevel.Follows(foul, 4, 0)), api.Absent},
		{row(bevel.Follows(foul, 3, 0)), api.Turned},
		{row(bevel.Follows(foul, 0, 3)), api.Foul},
		{row(bevel.Breaks(bad)), api.Range},
		{row(bevel.Breaks(foul)), api.Foul},
		{row(bevel.Passes(bad, 4, 0)), api.Range},
		{row(bevel.Passes(foul, 4, 0)), api.Absent},
		{row(bevel.Passes(foul, 3, 0)), api.Turned},
		{row(bevel.Passes(foul, 0, 3)), api.Foul},
		{row(bevel.Wrong(bad, 2)), api.Range},
		{row(bevel.Wrong(foul, 2)), api.Absent},
		{row(bevel.Wrong(foul, 1)), api.Foul},
		{row(bevel.Fewest(bad)), api.Range},
		{row(bevel.Fewest(foul)), api.Clear},
		{row(bevel.Clash(bad)), api.Range},
		{row(bevel.Clash(foul)), api.Clear},
		{row(bevel.Ask(bad)), api.Range},
		{row(bevel.Ask(foul)), api.Foul},
		{row(bevel.Measure(bad, 4, to(1, 0))), api.Range},
		{row(bevel.Measure(foul, 4, to(1, 0))), api.Absent},
		{row(bevel.Measure(foul, 1, to(1, 0))), api.Range},
		{row(bevel.Measure(foul, 1, to(0, 960))), api.Range},
		{row(bevel.Measure(foul, 1, one(9))), api.Foul},
		{row(bevel.Measure(foul, 1, one(12))), api.Foul},
		{row(bevel.Read(bad, reading(3, one(6)))), api.Range},
		{row(bevel.Read(full, reading(3, to(1, 0)))), api.Many}, // how many there are comes before each of them
		{row(bevel.Read(foul, reading(3, to(1, 0)))), api.Absent},
		{row(bevel.Read(foul, reading(2, to(1, 0)))), api.Range},
		{row(bevel.Read(foul, reading(2, one(0)))), api.Foul},
		{row(bevel.Drop(bad, 2)), api.Range},
		{row(bevel.Drop(foul, 2)), api.Absent},
		{row(bevel.Drop(foul, 1)), api.Clear},
		{row(bevel.Print(bad)), api.Range},
		{row(bevel.Print(foul)), api.Clear},
	} {
		if s := snagOf(t, x.results); s != x.want {
			t.Error(i, s)
		}
	}
	if bad.Bite, bad.Offsets = 1, bad.Offsets[:2]; bevel.CheckBook(bad) != api.Many {
		t.Fatal(bad)
	}
	for _, c := range calls(bad, news{}) { // this book has another snag than what is asked about
		if s := snagOf(t, c.results); s != api.Many {
			t.Error(c.name, s)
		}
	}
}

// It makes no difference whether a slice is nil or empty (R3).
func TestEmpty(t *testing.T) {
	b := parse(t, textN)
	b.Readings = nil
	with := b
	with.Readings = []api.BevelReading{}
	n := news{frame: 1, to: 3, offsets: list(10, 12, 14, 14), x: one(12), read: reading(2, one(0))}
	m := n
	m.wrong = []int{}
	again := calls(with, m)
	for i, c := range calls(b, n) {
		if !alike(t, c.results, again[i].results) {
			t.Error(c, again[i])
		}
	}
	with.Offsets = []api.Span{}
	if s := bevel.CheckBook(with); s != api.Many {
		t.Error(s)
	}
	if l, s := bevel.Bevels(b, []int{}); len(l) > 0 || s != api.Many {
		t.Error(l, s)
	}
}

// alike tells whether results are equal, if it makes no difference whether a slice is nil or empty.
func alike(t *testing.T, x, y []any) bool {
	t.Helper()
	return slices.EqualFunc(x, y, func(x, y any) bool {
		if b, ok := x.(api.BevelBook); ok && len(b.Offsets) > 0 {
			return printed(t, b) == printed(t, y.(api.BevelBook))
		}
		return isZero(x) && isZero(y) || reflect.DeepEqual(x, y)
	})
}

// fill changes all memory of a list, also what is behind its end.
func fill[T any](list []T, x T) {
	list = list[:cap(list)]
	for i := range list {
		list[i] = x
	}
}

func roomy[T any](list []T) []T { return append(make([]T, 0, 9), list...) }

// spoil changes all memory of a book.
func spoil(b api.BevelBook) {
	fill(b.Offsets, one(-7))
	fill(b.Readings, reading(-7, one(-7)))
}

// No argument is changed, and no result shares memory with one (R4).
func TestMemory(t *testing.T) {
	for i, change := range []func(b api.BevelBook) (api.BevelBook, api.Snag){
		func(b api.BevelBook) (api.BevelBook, api.Snag) { return bevel.Measure(b, 1, one(12)) },
		func(b api.BevelBook) (api.BevelBook, api.Snag) { return bevel.Measure(b, 1, to(0, 959)) },
		func(b api.BevelBook) (api.BevelBook, api.Snag) { return bevel.Read(b, reading(2, one(0))) },
		func(b api.BevelBook) (api.BevelBook, api.Snag) { return bevel.Drop(b, 0) },
		func(b api.BevelBook) (api.BevelBook, api.Snag) { return bevel.Drop(b, 1) },
	} {
		b := parse(t, textE)
		b.Offsets, b.Readings = roomy(b.Offsets), roomy(b.Readings)
		now, s := change(b)
		if s != api.Clear || printed(t, b) != textE {
			t.Fatal(i, s, b)
		}
		if b.Readings[:3][2] != (api.BevelReading{}) || b.Offsets[:5][4] != (api.Span{}) {
			t.Error(i, "what is behind the end of a list was changed", b)
		}
		after := printed(t, now)
		spoil(now)
		if printed(t, b) != textE {
			t.Error(i, b)
		}
		now, _ = change(b)
		spoil(b)
		if printed(t, now) != after {
			t.Error(i, now)
		}
	}
}

// The lists that are returned share no memory with a book, or with what is handed in.
func TestMemoryOfLists(t *testing.T) {
	b, offsets, wrong := parse(t, textE), roomy(list(10, 12, 14, 14)), roomy(list(0))
	b.Offsets, b.Readings = roomy(b.Offsets), roomy(b.Readings)
	for _, find := range []func() []int{
		func() []int { l, _ := bevel.Bevels(b, offsets); return l },
		func() []int { l, _ := bevel.Offsets(b, 1); return l },
		func() []int { l, _ := bevel.At(b, 0); return l },
		func() []int { l, _ := bevel.Breaks(b); return l },
		func() []int { l, _ := bevel.Fewest(b); return l },
		func() []int { l, _ := bevel.Clash(b); return l },
	} {
		want := slices.Clone(find())
		fill(find(), -7)
		if got := find(); len(got) == 0 || !slices.Equal(got, want) {
			t.Error(got, want)
		}
	}
	if is, s := bevel.IsBoat(b, offsets, wrong); !is || s != api.Clear {
		t.Error(is, s)
	}
	if printed(t, b) != textE || !slices.Equal(offsets, list(10, 12, 14, 14)) || !slices.Equal(wrong, list(0)) {
		t.Error(b, offsets, wrong)
	}
}

// What is printed is parsed as an equal book, with or without its last line feed.
func TestP0_3Texts(t *testing.T) {
	eachBook(t, 300, func(t *testing.T, b api.BevelBook, o *oracle, r *rand.Rand) {
		text := printed(t, b)
		for _, s := range []string{text, strings.TrimSuffix(text, "\n")} {
			if now := parse(t, s); !reflect.DeepEqual(now, b) {
				t.Error(now)
			}
		}
	})
}

// What the offsets really are is, with the readings that are really wrong, a boat of each book that is right about them, and all that books tell is so.
func TestP0_4WhateverTheyAre(t *testing.T) {
	learned := 0
	eachBook(t, 70, func(t *testing.T, b api.BevelBook, o *oracle, r *rand.Rand) {
		for range min(len(o.ships), 2) {
			x := o.ships[r.Intn(len(o.ships))]
			now, wrong := b, slices.Clone(x.wrong)
			learn := func(what string, next api.BevelBook, s api.Snag) {
				if s != api.Clear {
					t.Fatal(what, now, x, s)
				}
				now = next
				learned++
				tellsRight(t, now, x.offsets, wrong)
			}
			tellsRight(t, b, x.offsets, wrong)
			for range api.MaxBevelReadings - len(b.Readings) {
				y := readingOf(r, x.bevels)
				if len(wrong) < b.Wrong {
					wrong = append(wrong, len(now.Readings))
					y = reading(0, one(r.Intn(9)))
				}
				next, s := bevel.Read(now, y)
				learn("Read", next, s)
			}
			for frame, offset := range x.offsets {
				next, s := bevel.Measure(now, frame, to(max(offset-r.Intn(3), 0), min(offset+r.Intn(3), api.MaxBevelOffset)))
				learn("Measure", next, s)
			}
			for len(now.Readings) > 0 {
				i := r.Intn(len(now.Readings))
				next, s := bevel.Drop(now, i)
				wrong = withoutReading(wrong, i)
				learn("Drop", next, s)
			}
		}
	})
	if learned < 500 {
		t.Error("too little news", learned)
	}
}

// withoutReading returns which readings are wrong once one of them is dropped, and others have lesser indexes.
func withoutReading(wrong []int, dropped int) (list []int) {
	for _, i := range wrong {
		switch {
		case i < dropped:
			list = append(list, i)
		case i > dropped:
			list = append(list, i-1)
		}
	}
	return list
}

// What becomes known makes nothing possible that was not, and takes back nothing that was sure.
func TestP0_6KnowingMore(t *testing.T) {
	tried := 0
	eachBook(t, 200, func(t *testing.T, b api.BevelBook, o *oracle, r *rand.Rand) {
		for _, now := range knowingMore(r, b) {
			knowsMore(t, b, now)
			tried++
		}
	})
	if tried < 500 {
		t.Error("too few books", tried)
	}
}

// knowingMore returns books of which something more is known.
func knowingMore(r *rand.Rand, b api.BevelBook) (books []api.BevelBook) {
	for range 3 {
		frame := r.Intn(len(b.Offsets))
		low := some(r, b.Offsets[frame])
		if now, s := bevel.Measure(b, frame, to(low, min(low+r.Intn(2), api.MaxBevelOffset))); s == api.Clear {
			books = append(books, now)
		}
		if now, s := bevel.Read(b, readingOf(r, bevelsOf(b, randomOffsets(r, b)))); s == api.Clear {
			books = append(books, now)
		}
	}
	return books
}

// isPart tells whether all elements of a list are in another one.
func isPart[T comparable](list, of []T) bool {
	return !slices.ContainsFunc(list, func(x T) bool { return !slices.Contains(of, x) })
}

// knowsMore tests that a book of which more is known tells no more to be possible, and nothing that was sure to be otherwise. A new reading can make more boats, as it can be wrong, but none whose offsets, and earlier readings that are wrong, no boat had.
func knowsMore(t *testing.T, b, now api.BevelBook) {
	t.Helper()
	many, _ := bevel.Boats(b)
	if n, _ := bevel.Boats(now); n == 0 || n > many && len(now.Readings) == len(b.Readings) {
		t.Error("Boats", b, now, many, n)
	}
	for _, x := range shipsOf(now) {
		earlier := withoutReading(x.wrong, len(b.Readings))
		if !isBoat(b, x.offsets, earlier) {
			t.Error("a new boat", b, now, x)
		}
	}
	isPartOf := func(what string, question func(api.BevelBook) ([]int, api.Snag)) {
		t.Helper()
		before, _ := question(b)
		if after, s := question(now); !isPart(after, before) || s != api.Clear {
			t.Error(what, b, now, before, after, s)
		}
	}
	isAsSure := func(what string, question func(api.BevelBook) (api.Sure, api.Snag)) {
		t.Helper()
		before, _ := question(b)
		if sure, s := question(now); before != api.Open && sure != before || s != api.Clear {
			t.Error(what, b, now, before, sure, s)
		}
	}
	last := len(b.Offsets) - 1
	for frame := range b.Offsets {
		isPartOf("Offsets", func(b api.BevelBook) ([]int, api.Snag) { return bevel.Offsets(b, frame) })
		if frame == last {
			continue
		}
		isPartOf("At", func(b api.BevelBook) ([]int, api.Snag) { return bevel.At(b, frame) })
		isAsSure("Stands", func(b api.BevelBook) (api.Sure, api.Snag) { return bevel.Stands(b, frame) })
		isAsSure("Alike", func(b api.BevelBook) (api.Sure, api.Snag) { return bevel.Alike(b, 0, frame) })
		isAsSure("Follows", func(b api.BevelBook) (api.Sure, api.Snag) { return bevel.Follows(b, frame, last) })
		before, _ := bevel.Passes(b, frame, last)
		if after, s := bevel.Passes(now, frame, last); after.Low < before.Low || after.High > before.High || s != api.Clear {
			t.Error("Passes", b, now, frame, before, after, s)
		}
	}
	for i := range b.Readings {
		isAsSure("Wrong", func(b api.BevelBook) (api.Sure, api.Snag) { return bevel.Wrong(b, i) })
	}
	isPartOf("Breaks", bevel.Breaks)
	few, _ := bevel.Fewest(b)
	if l, s := bevel.Fewest(now); len(l) < len(few) || s != api.Clear {
		t.Error("Fewest", b, now, few, l, s)
	}
	clash, _ := bevel.Clash(b)
	if l, s := bevel.Clash(now); len(clash) > 0 && (len(l) == 0 || len(l) > len(clash)) || s != api.Clear {
		t.Error("Clash", b, now, clash, l, s)
	}
}
