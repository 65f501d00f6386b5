package mould_test

import (
	"math/rand"
	"reflect"
	"slices"
	"strings"
	"sync"
	"testing"

	"ribband/api"
	"ribband/mould"
)

func row(results ...any) []any { return results }

// news is what is asked about a book, or becomes known.
type news struct {
	piece, board, bears int
	lengths             []int
	cuts                []api.MouldCut
	x                   api.Span
	tape                api.MouldTape
	wood                api.MouldBoard
}

const clashCall = 13 // where calls has Clash

// calls calls each function that has a book among its arguments; the results come with the snag last.
func calls(b api.MouldBook, n news) [][]any {
	return [][]any{
		row(mould.CheckBook(b)),
		row(mould.Clear(b, n.board)),
		row(mould.Longest(b, n.board, n.bears)),
		row(mould.Fits(b, n.lengths, n.cuts)),
		row(mould.IsBoat(b, n.lengths)),
		row(mould.Boats(b)),
		row(mould.Lengths(b, n.piece)),
		row(mould.Total(b)),
		row(mould.Does(b, n.cuts)),
		row(mould.Spare(b, n.cuts)),
		row(mould.Fewest(b)),
		row(mould.Shortest(b)),
		row(mould.Needed(b)),
		row(mould.Clash(b)),
		row(mould.Ask(b)),
		row(mould.Measure(b, n.piece, n.x)),
		row(mould.Tape(b, n.tape)),
		row(mould.Add(b, n.wood)),
		row(mould.Lose(b, n.board)),
		row(mould.Print(b)),
	}
}

func isZero(v any) bool {
	r := reflect.ValueOf(v)
	return r.IsZero() || r.Kind() == reflect.Slice && r.Len() == 0
}

func snagOf(t *testing.T, results []any) api.Snag {
	t.Helper()
	last := len(results) - 1
	s := results[last].(api.Snag)
	if s != api.Clear && slices.ContainsFunc(results[:last], func(v any) bool { return !isZero(v) }) {
		t.Error("with a snag there is a result", results)
	}
	return s
}

var strange = []int{least, -1000, -1, 0, 1, 2, 3, 4, 5, 39, 40, 41, 120, 121, 1 << 40, most}

func pick(r *rand.Rand) int { return strange[r.Intn(len(strange))] }

func strangeName(r *rand.Rand) string {
	return []string{"", "a", "elm", "B", "9", "a b", "\xff", "none", "abcdefghijk"}[r.Intn(9)]
}

func strangeNews(r *rand.Rand) news {
	n := news{piece: pick(r), board: pick(r), bears: pick(r), x: to(pick(r), pick(r)), tape: api.MouldTape{Sum: to(pick(r), pick(r))}}
	n.wood = api.MouldBoard{Name: strangeName(r), Long: pick(r)}
	for range r.Intn(5) {
		n.lengths = append(n.lengths, pick(r))
		n.cuts = append(n.cuts, api.MouldCut{Board: pick(r), From: pick(r)})
		n.tape.Pieces = append(n.tape.Pieces, pick(r))
		n.wood.Knots = append(n.wood.Knots, to(pick(r), pick(r)))
	}
	return n
}

// likelyNews is what a book often has an answer to.
func likelyNews(r *rand.Rand, o *oracle) news {
	b := o.book
	n := news{piece: r.Intn(len(b.Pieces)), board: r.Intn(3), bears: r.Intn(3), lengths: randomLengths(r, b), wood: randomBoard(r, "new", 9)}
	n.x, n.tape = b.Pieces[n.piece].Length, tapeAbout(r, n.lengths)
	if len(b.Boards) > 0 {
		n.cuts = randomCuts(r, o)
	}
	return n
}

func strangeBook(r *rand.Rand) api.MouldBook {
	b := randomBook(r)
	n := strangeNews(r)
	piece := &b.Pieces[r.Intn(len(b.Pieces))]
	switch r.Intn(9) {
	case 0:
		b.Saw = pick(r)
	case 1:
		piece.Name = strangeName(r)
	case 2:
		piece.Length = n.x
	case 3:
		piece.Bears = pick(r)
	case 4:
		b.Pieces = b.Pieces[:r.Intn(len(b.Pieces))]
	case 5:
		b.Boards = append(b.Boards, n.wood)
	case 6:
		b.Boards = append(b.Boards, make([]api.MouldBoard, r.Intn(4))...)
	case 7:
		b.Tapes = append(b.Tapes, n.tape)
	case 8:
		b.Tapes = append(b.Tapes, make([]api.MouldTape, r.Intn(6))...)
	}
	return b
}

func TestP0_1Always(t *testing.T) {
	r := rand.New(rand.NewSource(1))
	for range 1500 {
		b, n := strangeBook(r), strangeNews(r)
		if r.Intn(3) == 0 {
			b = randomBook(r)
			if r.Intn(2) == 0 {
				n = likelyNews(r, newOracle(b))
			}
		}
		was, lengths, cuts, pieces, knots := clone(b), slices.Clone(n.lengths), slices.Clone(n.cuts), slices.Clone(n.tape.Pieces), slices.Clone(n.wood.Knots)
		if !reflect.DeepEqual(calls(b, n), calls(b, n)) || !reflect.DeepEqual(b, was) {
			t.Fatal(b, n)
		}
		if !slices.Equal(n.lengths, lengths) || !slices.Equal(n.cuts, cuts) || !slices.Equal(n.tape.Pieces, pieces) || !slices.Equal(n.wood.Knots, knots) {
			t.Fatal(b, n)
		}
	}
	for _, text := range []string{"", "\x00", "mould", "mould 1\npiece", strings.Repeat("\xff ", 9), strings.Repeat("tape 0+", 999)} {
		b, line, s := mould.Parse(text)
		if c, other, again := mould.Parse(text); s == api.Clear || other != line || again != s || !reflect.DeepEqual(b, c) {
			t.Errorf("%q: %v %v", text, line, s)
		}
	}
	long := api.MouldBook{Pieces: make([]api.MouldPiece, 1<<20), Boards: make([]api.MouldBoard, 1<<20), Tapes: make([]api.MouldTape, 1<<20)}
	if s := mould.CheckBook(long); s != api.Many {
		t.Error(s)
	}
	long = parse(t, textM)
	long.Boards[1].Knots = make([]api.Span, 1<<20)
	if s := mould.CheckBook(long); s != api.Many {
		t.Error(s)
	}
	long.Boards, long.Tapes[0].Pieces = nil, make([]int, 1<<20)
	if s := mould.CheckBook(long); s != api.Turned {
		t.Error(s)
	}
}

func TestP0_1Together(t *testing.T) {
	m, foul := parse(t, textM), parse(t, textC)
	n := news{bears: 1, lengths: []int{4, 3, 3}, cuts: cutX(), x: to(1, 4), tape: api.MouldTape{Pieces: []int{1}, Sum: one(3)}, wood: api.MouldBoard{Name: "ash", Long: 13}}
	all := func() [][]any { return slices.Concat(calls(m, n), calls(foul, n)) }
	want := all()
	var group sync.WaitGroup
	for range 16 {
		group.Add(1)
		go func() {
			defer group.Done()
			for range 30 {
				if got := all(); !reflect.DeepEqual(got, want) {
					t.Error(got)
				}
			}
		}()
	}
	group.Wait()
}

// The book's snag comes first, and with a snag all other results are zero.
func TestP0_2Snags(t *testing.T) {
	r := rand.New(rand.NewSource(3))
	seen := map[api.Snag]int{}
	for range 2000 {
		b := strangeBook(r)
		want := mould.CheckBook(b)
		seen[want]++
		for i, results := range calls(b, strangeNews(r)) {
			if s := snagOf(t, results); want != api.Clear && s != want {
				t.Fatal(i, b, s)
			}
		}
	}
	for _, s := range []api.Snag{api.Clear, api.Range, api.Many, api.Name, api.Absent} {
		if seen[s] < 50 {
			t.Error("the books are too much alike", seen)
		}
	}
}

// The snags of what is handed in come before what is said of a function, and that before Foul.
func TestP0_2Order(t *testing.T) {
	none := parse(t, textC)
	full := parse(t, textM+strings.Repeat("tape 1 3\n", 3))
	bad := clone(none)
	bad.Saw = 9
	board := func(name string, long int, k ...api.Span) api.MouldBoard {
		return api.MouldBoard{Name: name, Long: long, Knots: k}
	}
	tape := func(x api.Span, pieces ...int) api.MouldTape { return api.MouldTape{Pieces: pieces, Sum: x} }
	for i, x := range []struct {
		results []any
		want    api.Snag
	}{
		{row(mould.CheckBook(none)), api.Clear},
		{row(mould.Clear(bad, 9)), api.Range},
		{row(mould.Clear(none, 2)), api.Absent},
		{row(mould.Clear(none, 1)), api.Clear},
		{row(mould.Longest(none, 2, 9)), api.Absent},
		{row(mould.Longest(none, 1, 3)), api.Range},
		{row(mould.Longest(none, 1, 2)), api.Clear},
		{row(mould.Fits(bad, nil, nil)), api.Range},
		{row(mould.Fits(none, nil, cuts(9, 9))), api.Many},
		{row(mould.Fits(none, []int{4, 3, 41}, nil)), api.Range},
		{row(mould.Fits(none, []int{4, 3, 3}, nil)), api.Many},
		{row(mould.Fits(none, []int{4, 3, 3}, cuts(2, 41, 0, 0, 0, 4))), api.Absent},
		{row(mould.Fits(none, []int{4, 3, 3}, cuts(1, 41, 2, 0, 0, 4))), api.Range},
		{row(mould.Fits(none, []int{4, 3, 3}, cutX())), api.Clear},
		{row(mould.IsBoat(none, []int{4, 3})), api.Many},
		{row(mould.IsBoat(none, []int{0, 3, 3})), api.Range},
		{row(mould.IsBoat(none, []int{4, 3, 3})), api.Clear},
		{row(mould.Boats(none)), api.Clear},
		{row(mould.Lengths(none, 3)), api.Absent},
		{row(mould.Lengths(none, -1)), api.Absent},
		{row(mould.Lengths(none, 2)), api.Foul},
		{row(mould.Total(none)), api.Foul},
		{row(mould.Does(none, nil)), api.Many},
		{row(mould.Does(none, cuts(1, 41, 2, 0, 0, 4))), api.Range},
		{row(mould.Does(none, cutX())), api.Foul},
		{row(mould.Spare(none, nil)), api.Many},
		{row(mould.Spare(none, cuts(-1, 41, 2, 0, 0, 4))), api.Absent},
		{row(mould.Spare(none, cuts(0, 0, 0, 0, 0, 0))), api.Foul}, // before Scant
		{row(mould.Fewest(none)), api.Foul},
		{row(mould.Shortest(none)), api.Foul},
		{row(mould.Needed(none)), api.Foul},
		{row(mould.Clash(none)), api.Clear},
		{row(mould.Ask(none)), api.Foul},
		{row(mould.Measure(bad, 3, to(1, 0))), api.Range},
		{row(mould.Measure(none, 3, to(1, 0))), api.Absent},
		{row(mould.Measure(none, 0, to(1, 0))), api.Range},
		{row(mould.Measure(none, 0, to(0, 4))), api.Range},
		{row(mould.Measure(none, 0, one(9))), api.Foul},
		{row(mould.Measure(none, 0, to(4, 5))), api.Foul},
		{row(mould.Tape(bad, tape(to(1, 0)))), api.Range},
		{row(mould.Tape(full, tape(to(1, 0), 3))), api.Many}, // how many there are comes before each of them
		{row(mould.Tape(none, tape(to(1, 0)))), api.Many},
		{row(mould.Tape(none, tape(to(1, 0), 3))), api.Absent},
		{row(mould.Tape(none, tape(to(1, 0), 1, 1))), api.Turned},
		{row(mould.Tape(none, tape(to(1, 0), 1))), api.Range},
		{row(mould.Tape(none, tape(one(3), 1))), api.Foul},
		{row(mould.Add(bad, board("", 0))), api.Range},
		{row(mould.Add(none, board("", 0))), api.Name},
		{row(mould.Add(none, board("elm", 0))), api.Again},
		{row(mould.Add(none, board("ash", 0, make([]api.Span, 4)...))), api.Range},
		{row(mould.Add(none, board("ash", 9, make([]api.Span, 4)...))), api.Many},
		{row(mould.Add(none, board("ash", 9, one(9)))), api.Range},
		{row(mould.Add(none, board("ash", 9, one(8), one(8)))), api.Turned},
		{row(mould.Add(none, board("ash", 9))), api.Clear}, // a book without boats can have it, too
		{row(mould.Lose(bad, 9)), api.Range},
		{row(mould.Lose(none, 2)), api.Absent},
		{row(mould.Lose(none, -1)), api.Absent},
		{row(mould.Lose(none, 1)), api.Clear},
		{row(mould.Print(none)), api.Clear},
		{row(mould.Print(bad)), api.Range},
	} {
		if s := snagOf(t, x.results); s != x.want {
			t.Error(i, s)
		}
	}
}

// If nothing is found, what would tell it is zero, too.
func TestP0_2NotFound(t *testing.T) {
	for _, text := range []string{piecesM, piecesM + "board elm 8 3\n", piecesM + "board ash 12 none\n"} {
		b := parse(t, text)
		if x, n, found, s := mould.Fewest(b); len(x) > 0 || n != 0 || found || s != api.Clear {
			t.Error(text, x, n, found, s)
		}
		if x, n, found, s := mould.Shortest(b); len(x) > 0 || n != 0 || found || s != api.Clear {
			t.Error(text, x, n, found, s)
		}
	}
}

// It makes no difference whether a slice is nil or empty (R3).
func TestEmpty(t *testing.T) {
	b := parse(t, piecesM+"board oak 16 none\n")
	e := clone(b)
	e.Tapes, e.Boards[0].Knots = []api.MouldTape{}, []api.Span{}
	n := news{x: one(4), tape: api.MouldTape{Pieces: []int{1}, Sum: one(3)}, wood: api.MouldBoard{Name: "ash", Long: 1}}
	m := n
	m.lengths, m.cuts, m.wood.Knots = []int{}, []api.MouldCut{}, []api.Span{}
	one, two := calls(b, n), calls(e, m)
	for i := range one {
		for k := range one[i] {
			x, ok := one[i][k].(api.MouldBook)
			if y, _ := two[i][k].(api.MouldBook); ok {
				p, s := mould.Print(x)
				if q, l := mould.Print(y); p != q || s != api.Clear || l != api.Clear {
					t.Error(i, x, y)
				}
			} else if isZero(one[i][k]) != isZero(two[i][k]) || !isZero(one[i][k]) && !reflect.DeepEqual(one[i][k], two[i][k]) {
				t.Error(i, k, one[i], two[i])
			}
		}
	}
	if s := mould.CheckBook(api.MouldBook{Pieces: []api.MouldPiece{}}); s != api.Many {
		t.Error(s)
	}
	e.Tapes = []api.MouldTape{{Pieces: []int{}}}
	if s := mould.CheckBook(e); s != api.Many {
		t.Error(s)
	}
}

// fill changes all memory of a list, also what is behind its end.
func fill[T any](list []T, x T) {
	list = list[:cap(list)]
	for i := range list {
		list[i] = x
	}
}

// spoil changes all memory of a book.
func spoil(b api.MouldBook) {
	for _, w := range b.Boards {
		fill(w.Knots, one(-7))
	}
	for _, tape := range b.Tapes {
		fill(tape.Pieces, -7)
	}
	fill(b.Pieces, api.MouldPiece{Name: "spoilt"})
	fill(b.Boards, api.MouldBoard{Name: "spoilt"})
	fill(b.Tapes, api.MouldTape{Sum: one(-7)})
}

func roomy[T any](list []T) []T { return append(make([]T, 0, 9), list...) }

// roomyBook returns a book whose lists have room behind their ends.
func roomyBook(b api.MouldBook) api.MouldBook {
	b.Pieces, b.Boards, b.Tapes = roomy(b.Pieces), roomy(b.Boards), roomy(b.Tapes)
	for i := range b.Boards {
		b.Boards[i].Knots = roomy(b.Boards[i].Knots)
	}
	for i := range b.Tapes {
		b.Tapes[i].Pieces = roomy(b.Tapes[i].Pieces)
	}
	return b
}

// No argument is changed, and no result shares memory with one (R4).
func TestMemory(t *testing.T) {
	tape := func() api.MouldTape { return api.MouldTape{Pieces: roomy([]int{0, 1}), Sum: to(0, 9)} }
	board := func() api.MouldBoard {
		return api.MouldBoard{Name: "ash", Long: 9, Knots: roomy([]api.Span{one(2), to(4, 5)})}
	}
	for i, change := range []func(b api.MouldBook, x api.MouldTape, w api.MouldBoard) (api.MouldBook, api.Snag){
		func(b api.MouldBook, x api.MouldTape, w api.MouldBoard) (api.MouldBook, api.Snag) {
			return mould.Measure(b, 0, one(4))
		},
		func(b api.MouldBook, x api.MouldTape, w api.MouldBoard) (api.MouldBook, api.Snag) {
			return mould.Measure(b, 0, to(1, 40))
		},
		func(b api.MouldBook, x api.MouldTape, w api.MouldBoard) (api.MouldBook, api.Snag) {
			return mould.Tape(b, x)
		},
		func(b api.MouldBook, x api.MouldTape, w api.MouldBoard) (api.MouldBook, api.Snag) {
			return mould.Add(b, w)
		},
		func(b api.MouldBook, x api.MouldTape, w api.MouldBoard) (api.MouldBook, api.Snag) {
			return mould.Lose(b, 0)
		},
		func(b api.MouldBook, x api.MouldTape, w api.MouldBoard) (api.MouldBook, api.Snag) {
			return mould.Lose(b, 1)
		},
	} {
		b, x, w := roomyBook(parse(t, textM)), tape(), board()
		now, s := change(b, x, w)
		if s != api.Clear || printed(t, b) != textM || !reflect.DeepEqual(x, tape()) || !reflect.DeepEqual(w, board()) {
			t.Fatal(i, s, b, x, w)
		}
		after := printed(t, now)
		spoil(now)
		if printed(t, b) != textM || !reflect.DeepEqual(x, tape()) || !reflect.DeepEqual(w, board()) {
			t.Error(i, b, x, w)
		}
		now, _ = change(b, x, w)
		spoil(b)
		fill(x.Pieces, -7)
		fill(w.Knots, one(-7))
		if printed(t, now) != after {
			t.Error(i, now)
		}
	}
}

// The lists that are returned share no memory with a book, or what is handed in.
func TestMemoryOfLists(t *testing.T) {
	b, l, x := roomyBook(parse(t, textM)), []int{4, 3, 3}, cutX()
	spans, _ := mould.Clear(b, 0)
	fill(spans, one(-7))
	lengths, _ := mould.Lengths(b, 0)
	fill(lengths, -7)
	spare, _ := mould.Spare(b, x)
	fill(spare, -7)
	few, _, _, _ := mould.Fewest(b)
	fill(few, api.MouldCut{Board: -7})
	needed, _ := mould.Needed(b)
	fill(needed, -7)
	clash, _ := mould.Clash(parse(t, textC))
	fill(clash, -7)
	if printed(t, b) != textM || !slices.Equal(l, []int{4, 3, 3}) || !slices.Equal(x, cutX()) {
		t.Error(b, l, x)
	}
}

// What is printed is parsed as an equal book, with or without its last line feed.
func TestP0_3Texts(t *testing.T) {
	eachBook(t, 300, func(t *testing.T, b api.MouldBook, o *oracle, r *rand.Rand) {
		text := printed(t, b)
		for _, s := range []string{text, strings.TrimSuffix(text, "\n")} {
			if now := parse(t, s); !reflect.DeepEqual(now, b) {
				t.Error(now)
			}
		}
	})
}

// Lengths that pieces really have are a boat of each book that is right about them, and all that books tell of them is so.
func TestP0_4WhateverTheyAre(t *testing.T) {
	eachBook(t, 80, func(t *testing.T, b api.MouldBook, o *oracle, r *rand.Rand) {
		for _, l := range o.boats[:min(len(o.boats), 6)] {
			books := []api.MouldBook{b}
			learn := func(what string, now api.MouldBook, s api.Snag) {
				if s != api.Clear {
					t.Fatal(what, books[len(books)-1], l, s)
				}
				books = append(books, now)
			}
			for piece, n := range l {
				now, s := mould.Measure(books[len(books)-1], piece, to(max(n-r.Intn(3), 1), min(n+r.Intn(3), api.MaxMouldLong)))
				learn("Measure", now, s)
			}
			if len(b.Tapes) < api.MaxMouldTapes {
				now, s := mould.Tape(books[len(books)-1], tapeAbout(r, l))
				learn("Tape", now, s)
			}
			if len(b.Boards) > 0 {
				now, s := mould.Lose(books[len(books)-1], r.Intn(len(b.Boards)))
				learn("Lose", now, s)
				now, s = mould.Add(now, randomBoard(r, "new", 6))
				learn("Add", now, s)
			}
			for _, x := range books {
				tellsRight(t, r, x, newOracle(x), l)
			}
		}
	})
}

// tellsRight tests that all that a book tells is so of lengths that are one of its boats.
func tellsRight(t *testing.T, r *rand.Rand, b api.MouldBook, o *oracle, l []int) {
	t.Helper()
	if is, s := mould.IsBoat(b, l); !is || s != api.Clear {
		t.Error("IsBoat", b, l, is, s)
	}
	if n, s := mould.Boats(b); n < 1 || s != api.Clear {
		t.Error("Boats", b, l, n, s)
	}
	for piece, n := range l {
		if list, _ := mould.Lengths(b, piece); !slices.Contains(list, n) {
			t.Error("Lengths", b, l, piece, list)
		}
	}
	if x, s := mould.Total(b); sum(l) < x.Low || sum(l) > x.High || s != api.Clear {
		t.Error("Total", b, l, x, s)
	}
	if list, s := mould.Clash(b); len(list) > 0 || s != api.Clear {
		t.Error("Clash", b, l, list, s)
	}
	few, _, found, _ := mould.Fewest(b)
	short, _, _, _ := mould.Shortest(b)
	if found && (!does(b, l, few) || !does(b, l, short)) {
		t.Error("Fewest, Shortest", b, l, few, short)
	}
	if len(b.Boards) == 0 {
		return
	}
	for range 5 {
		x := randomCuts(r, o)
		do := does(b, l, x)
		if is, s := mould.Fits(b, l, x); is != do || s != api.Clear {
			t.Error("Fits", b, l, x, is, s)
		}
		if sure, _ := mould.Does(b, x); sure == api.Yes && !do || sure == api.No && do {
			t.Error("Does", b, l, x, sure)
		}
		spare, s := mould.Spare(b, x)
		for piece, cut := range x {
			if s == api.Clear && cut.From+l[piece]+spare[cut.Board] > b.Boards[cut.Board].Long {
				t.Error("Spare", b, l, x, spare)
			}
		}
	}
}

// What becomes known makes nothing possible that was not, and takes back nothing that was sure.
func TestP0_6KnowingMore(t *testing.T) {
	tried := 0
	eachBook(t, 200, func(t *testing.T, b api.MouldBook, o *oracle, r *rand.Rand) {
		for _, now := range knowingMore(r, b) {
			knowsMore(t, r, o, now)
			tried++
		}
	})
	if tried < 300 {
		t.Error("too few books", tried)
	}
}

// knowingMore returns books of which something more is known.
func knowingMore(r *rand.Rand, b api.MouldBook) (books []api.MouldBook) {
	ways := waysOf(b)
	for range 4 {
		l := ways[r.Intn(len(ways))]
		piece := r.Intn(len(l))
		if now, s := mould.Measure(b, piece, to(l[piece], min(l[piece]+r.Intn(2), api.MaxMouldLong))); s == api.Clear {
			books = append(books, now)
		}
		if now, s := mould.Tape(b, tapeAbout(r, l)); s == api.Clear {
			books = append(books, now)
		}
	}
	return books
}

func knowsMore(t *testing.T, r *rand.Rand, o *oracle, now api.MouldBook) {
	t.Helper()
	b := o.book
	many, _ := mould.Boats(b)
	if n, _ := mould.Boats(now); n > many || n == 0 {
		t.Error("Boats", b, now, many, n)
	}
	for piece := range b.Pieces {
		before, _ := mould.Lengths(b, piece)
		after, _ := mould.Lengths(now, piece)
		for _, n := range after {
			if !slices.Contains(before, n) {
				t.Error("Lengths", b, now, piece, n)
			}
		}
	}
	x, _ := mould.Total(b)
	if y, _ := mould.Total(now); y.Low < x.Low || y.High > x.High {
		t.Error("Total", b, now, x, y)
	}
	if len(b.Boards) == 0 {
		return
	}
	for range 10 {
		x := randomCuts(r, o)
		before, _ := mould.Does(b, x)
		after, _ := mould.Does(now, x)
		if before != api.Open && after != before {
			t.Error("Does", b, now, x, before, after)
		}
		spare, s := mould.Spare(b, x)
		if more, l := mould.Spare(now, x); s == api.Clear && l != s {
			t.Error("Spare", b, now, x, l)
		} else if s == api.Clear {
			for board := range spare {
				if more[board] < spare[board] {
					t.Error("Spare", b, now, x, spare, more)
				}
			}
		}
	}
	_, boards, found, _ := mould.Fewest(b)
	if _, n, ok, _ := mould.Fewest(now); found && (!ok || n > boards) {
		t.Error("Fewest", b, now, boards, n, ok)
	}
	_, long, _, _ := mould.Shortest(b)
	if _, n, ok, _ := mould.Shortest(now); found && (!ok || n > long) {
		t.Error("Shortest", b, now, long, n, ok)
	}
	before, _ := mould.Needed(b)
	after, _ := mould.Needed(now)
	for _, board := range after {
		if !slices.Contains(before, board) {
			t.Error("Needed", b, now, before, after)
		}
	}
}
