package mould_test

import (
	"math/rand"
	"slices"
	"strings"
	"testing"

	"ribband/api"
	"ribband/mould"
)

func TestP4_1Examples(t *testing.T) {
	m := parse(t, textM)
	if s := mould.CheckBook(m); s != api.Clear {
		t.Error(s)
	}
	if l, s := mould.Clear(m, 0); !slices.Equal(l, []api.Span{to(0, 2), to(4, 7)}) || s != api.Clear {
		t.Error(l, s)
	}
	for bears, want := range []int{4, 8} {
		if n, s := mould.Longest(m, 0, bears); n != want || s != api.Clear {
			t.Error(bears, n, s)
		}
	}
	if is, s := mould.Fits(m, []int{4, 3, 3}, cutX()); !is || s != api.Clear {
		t.Error(is, s)
	}
	if is, s := mould.Fits(m, []int{4, 3, 3}, cutY()); is || s != api.Clear {
		t.Error(is, s)
	}
	if is, s := mould.IsBoat(m, []int{4, 3, 3}); !is || s != api.Clear {
		t.Error(is, s)
	}
}

func knots(list ...api.Span) []api.Span { return list }

// Each snag of a book, and which one comes first.
func TestP4_1CheckBook(t *testing.T) {
	type book = *api.MouldBook
	for i, x := range []struct {
		change func(b book)
		want   api.Snag
	}{
		{func(b book) {}, api.Clear},
		{func(b book) { b.Saw = 0 }, api.Clear},
		{func(b book) { b.Saw = 3 }, api.Clear},
		{func(b book) { b.Saw = 4 }, api.Range},
		{func(b book) { b.Saw = -1 }, api.Range},
		{func(b book) { b.Saw, b.Pieces = 4, nil }, api.Range},
		{func(b book) { b.Pieces = nil }, api.Many},
		{func(b book) { b.Pieces, b.Tapes = b.Pieces[:1], nil }, api.Clear},
		{func(b book) { b.Pieces = append(b.Pieces, api.MouldPiece{Name: "fourth", Length: one(1)}) }, api.Many},
		{func(b book) { b.Pieces = make([]api.MouldPiece, 4) }, api.Many}, // before their names
		{func(b book) { b.Pieces[0].Name = "" }, api.Name},
		{func(b book) { b.Pieces[0].Name = "abcdefghij" }, api.Clear},
		{func(b book) { b.Pieces[0].Name = "abcdefghijk" }, api.Name},
		{func(b book) { b.Pieces[2].Name = "2b" }, api.Name},
		{func(b book) { b.Pieces[2].Name = "Arm" }, api.Name},
		{func(b book) { b.Pieces[2].Name = "a b" }, api.Name},
		{func(b book) { b.Pieces[2].Name = "\u00e4" }, api.Name},
		{func(b book) { b.Pieces[2].Name = "keel" }, api.Again},
		{func(b book) { b.Pieces[2].Name = "elm" }, api.Clear}, // a board can have the name of a piece
		{func(b book) { b.Pieces[2].Name, b.Pieces[2].Length = "keel", one(0) }, api.Again},
		{func(b book) { b.Pieces[1].Length, b.Pieces[2].Name = one(0), "" }, api.Range}, // piece by piece
		{func(b book) { b.Pieces[0].Length = one(0) }, api.Range},
		{func(b book) { b.Pieces[0].Length = to(0, 2) }, api.Range},
		{func(b book) { b.Pieces[0].Length = to(1, 3) }, api.Clear},
		{func(b book) { b.Pieces[0].Length = to(1, 4) }, api.Range},
		{func(b book) { b.Pieces[0].Length = to(38, 40) }, api.Clear},
		{func(b book) { b.Pieces[0].Length = to(39, 41) }, api.Range},
		{func(b book) { b.Pieces[0].Length = one(41) }, api.Range},
		{func(b book) { b.Pieces[0].Length = to(5, 4) }, api.Range},
		{func(b book) { b.Pieces[0].Length = to(least, most) }, api.Range},
		{func(b book) { b.Pieces[0].Length = to(most, least) }, api.Range},
		{func(b book) { b.Pieces[0].Bears = 2 }, api.Clear},
		{func(b book) { b.Pieces[0].Bears = 3 }, api.Range},
		{func(b book) { b.Pieces[0].Bears = -1 }, api.Range},
		{func(b book) { b.Pieces[2].Bears, b.Boards = 3, make([]api.MouldBoard, 4) }, api.Range},
		{func(b book) { b.Boards = nil }, api.Clear},
		{func(b book) { b.Boards = append(b.Boards, api.MouldBoard{Name: "ash", Long: 1}) }, api.Clear},
		{func(b book) { b.Boards = make([]api.MouldBoard, 3) }, api.Name},
		{func(b book) { b.Boards = make([]api.MouldBoard, 4) }, api.Many},
		{func(b book) { b.Boards[1].Name = "" }, api.Name},
		{func(b book) { b.Boards[1].Name = "o-k" }, api.Name},
		{func(b book) { b.Boards[1].Name = "elm" }, api.Again},
		{func(b book) { b.Boards[1].Name = "keel" }, api.Clear},
		{func(b book) { b.Boards[1].Name, b.Boards[1].Long = "elm", 0 }, api.Again},
		{func(b book) { b.Boards[0].Long, b.Boards[1].Name = 0, "" }, api.Range}, // board by board
		{func(b book) { b.Boards[1].Long = 1 }, api.Clear},
		{func(b book) { b.Boards[1].Long = 0 }, api.Range},
		{func(b book) { b.Boards[1].Long = least }, api.Range},
		{func(b book) { b.Boards[1].Long = 40 }, api.Clear},
		{func(b book) { b.Boards[1].Long = 41 }, api.Range},
		{func(b book) { b.Boards[1].Long, b.Boards[1].Knots = 41, make([]api.Span, 4) }, api.Range},
		{func(b book) { b.Boards[1].Knots = knots(one(0), one(1), to(2, 5)) }, api.Clear},
		{func(b book) { b.Boards[1].Knots = knots(one(0), one(1), one(2), one(3)) }, api.Many},
		{func(b book) { b.Boards[1].Knots = make([]api.Span, 4) }, api.Many},
		{func(b book) { b.Boards[1].Knots = knots(to(0, 5)) }, api.Clear},
		{func(b book) { b.Boards[1].Knots = knots(to(0, 6)) }, api.Range},
		{func(b book) { b.Boards[1].Knots = knots(one(6)) }, api.Range},
		{func(b book) { b.Boards[1].Knots = knots(to(-1, 2)) }, api.Range},
		{func(b book) { b.Boards[1].Knots = knots(to(3, 2)) }, api.Range},
		{func(b book) { b.Boards[1].Knots = knots(to(1, 3), one(3)) }, api.Turned},
		{func(b book) { b.Boards[1].Knots = knots(one(3), one(1)) }, api.Turned},
		{func(b book) { b.Boards[1].Knots = knots(to(1, 3), to(2, 6)) }, api.Range},
		{func(b book) { b.Boards[1].Knots = knots(one(3), one(1), one(6)) }, api.Turned},
		{func(b book) { b.Boards[1].Knots, b.Tapes = knots(one(6)), make([]api.MouldTape, 5) }, api.Range},
		{func(b book) { b.Tapes = nil }, api.Clear},
		{func(b book) { b.Tapes = slices.Repeat(b.Tapes, 4) }, api.Clear},
		{func(b book) { b.Tapes = slices.Repeat(b.Tapes, 5) }, api.Many},
		{func(b book) { b.Tapes = make([]api.MouldTape, 5) }, api.Many},
		{func(b book) { b.Tapes[0].Pieces = nil }, api.Many},
		{func(b book) { b.Tapes[0] = api.MouldTape{Sum: to(1, 0)} }, api.Many},
		{func(b book) { b.Tapes[0].Pieces = []int{0, 1, 2} }, api.Clear},
		{func(b book) { b.Tapes[0].Pieces = []int{3} }, api.Absent},
		{func(b book) { b.Tapes[0].Pieces = []int{-1} }, api.Absent},
		{func(b book) { b.Tapes[0].Pieces = []int{1, -1} }, api.Absent},
		{func(b book) { b.Tapes[0].Pieces = []int{1, 1} }, api.Turned},
		{func(b book) { b.Tapes[0].Pieces = []int{2, 0, 3} }, api.Turned},
		{func(b book) { b.Tapes[0].Pieces = []int{0, 1, 2, 2} }, api.Turned},
		{func(b book) { b.Tapes[0] = api.MouldTape{Pieces: []int{1, 1}, Sum: to(1, 0)} }, api.Turned},
		{func(b book) { b.Tapes[0].Sum = to(0, 120) }, api.Clear},
		{func(b book) { b.Tapes[0].Sum = one(0) }, api.Clear}, // a book without boats
		{func(b book) { b.Tapes[0].Sum = one(120) }, api.Clear},
		{func(b book) { b.Tapes[0].Sum = to(0, 121) }, api.Range},
		{func(b book) { b.Tapes[0].Sum = to(-1, 7) }, api.Range},
		{func(b book) { b.Tapes[0].Sum = to(7, 6) }, api.Range},
		{func(b book) { b.Tapes = []api.MouldTape{{Pieces: []int{0}, Sum: one(-1)}, {}} }, api.Range}, // tape by tape
	} {
		b := parse(t, textM)
		x.change(&b)
		if s := mould.CheckBook(b); s != x.want {
			t.Error(i, s)
		}
	}
}

func TestP4_1Clear(t *testing.T) {
	for text, want := range map[string]struct {
		clear []api.Span
		long  [3]int // for a piece that bears 0, 1, 2 knots
	}{
		"1 none":          {[]api.Span{one(0)}, [3]int{1, 1, 1}},
		"1 0":             {nil, [3]int{0, 1, 1}},
		"40 none":         {[]api.Span{to(0, 39)}, [3]int{40, 40, 40}},
		"40 0..39":        {nil, [3]int{0, 40, 40}},
		"40 0..38":        {[]api.Span{one(39)}, [3]int{1, 40, 40}},
		"40 1..39":        {[]api.Span{one(0)}, [3]int{1, 40, 40}},
		"40 20":           {[]api.Span{to(0, 19), to(21, 39)}, [3]int{20, 40, 40}},
		"10 0+4..5+9":     {[]api.Span{to(1, 3), to(6, 8)}, [3]int{3, 8, 9}},
		"10 2..3+4..5":    {[]api.Span{to(0, 1), to(6, 9)}, [3]int{4, 6, 10}}, // knots side by side are two
		"3 0+1+2":         {nil, [3]int{0, 1, 2}},
		"9 1+3+5":         {[]api.Span{one(0), one(2), one(4), to(6, 8)}, [3]int{3, 5, 7}},
		"12 2..8+10+11":   {[]api.Span{to(0, 1), one(9)}, [3]int{2, 10, 11}},
		"12 0..1+4..9+11": {[]api.Span{to(2, 3), one(10)}, [3]int{2, 9, 11}},
	} {
		b := parse(t, piecesM+"board fir 3 1\nboard ash "+text+"\n")
		if l, s := mould.Clear(b, 1); !slices.Equal(l, want.clear) || s != api.Clear {
			t.Error(text, l, s)
		}
		for bears, long := range want.long {
			if n, s := mould.Longest(b, 1, bears); n != long || s != api.Clear {
				t.Error(text, bears, n, s)
			}
		}
	}
	m := parse(t, textM)
	for _, board := range []int{-1, 2, 3, most, least} {
		if l, s := mould.Clear(m, board); len(l) > 0 || s != api.Absent {
			t.Error(board, l, s)
		}
		if n, s := mould.Longest(m, board, 9); n != 0 || s != api.Absent {
			t.Error(board, n, s)
		}
	}
	for _, bears := range []int{-1, 3, most, least} {
		if n, s := mould.Longest(m, 0, bears); n != 0 || s != api.Range {
			t.Error(bears, n, s)
		}
	}
}

func TestP4_1Fits(t *testing.T) {
	const knotty = "mould 2\npiece keel 4 2\npiece rib 3 1\nboard elm 12 1+3..4+9\n"
	for i, x := range []struct {
		text    string
		lengths []int
		cuts    []api.MouldCut
		fits    bool
		s       api.Snag
	}{
		{textM, []int{4, 3, 3}, cutX(), true, api.Clear},
		{textM, []int{4, 3, 3}, cutY(), false, api.Clear},
		{textM, []int{5, 3, 2}, cutY(), true, api.Clear},
		{textM, []int{6, 3, 4}, cutX(), true, api.Clear}, // lengths need not be a boat, nor of the spans
		{textM, []int{7, 3, 3}, cutX(), false, api.Clear},
		{textM, []int{6, 3, 3}, cuts(1, 1, 0, 0, 0, 4), false, api.Clear},
		{textM, []int{1, 1, 1}, cuts(1, 5, 0, 0, 0, 4), true, api.Clear},
		{textM, []int{1, 1, 1}, cuts(1, 6, 0, 0, 0, 4), false, api.Clear}, // behind the end
		{textM, []int{1, 1, 1}, cuts(1, 40, 0, 0, 0, 4), false, api.Clear},
		{textM, []int{40, 1, 1}, cuts(1, 40, 0, 0, 0, 4), false, api.Clear},
		{textM, []int{4, 3, 3}, cuts(1, 0, 0, 0, 0, 3), false, api.Clear}, // the arm meets the knot
		{textM, []int{4, 4, 3}, cuts(1, 0, 0, 0, 0, 5), true, api.Clear},  // the rib meets it, and bears it
		{textM, []int{4, 4, 3}, cuts(1, 0, 0, 0, 0, 4), false, api.Clear}, // no room for the saw
		{textM, []int{3, 1, 2}, cuts(0, 0, 0, 4, 0, 6), true, api.Clear},
		{textM, []int{3, 1, 2}, cuts(0, 0, 0, 6, 0, 4), false, api.Clear},
		{textM, []int{3, 1, 2}, cuts(0, 0, 0, 7, 0, 4), true, api.Clear}, // the order of pieces on a board can be any
		{textM, []int{1, 1, 1}, cuts(1, 4, 1, 2, 1, 0), true, api.Clear},
		{textM, []int{1, 1, 1}, cuts(1, 4, 1, 2, 1, 3), false, api.Clear}, // the third one beside the first one
		{textM, []int{1, 1, 1}, cuts(1, 4, 1, 2, 1, 2), false, api.Clear}, // one on another one
		{textM, []int{6, 1, 1}, cuts(1, 0, 1, 2, 0, 0), false, api.Clear}, // one within another one
		{knotty, []int{4, 3}, cuts(0, 0, 0, 6), true, api.Clear},
		{knotty, []int{4, 3}, cuts(0, 0, 0, 5), false, api.Clear}, // one place for a saw that takes two
		{knotty, []int{4, 3}, cuts(0, 0, 0, 9), true, api.Clear},
		{knotty, []int{9, 1}, cuts(0, 0, 0, 11), true, api.Clear},
		{knotty, []int{10, 1}, cuts(0, 0, 0, 11), false, api.Clear}, // a third knot
		{knotty, []int{1, 4}, cuts(0, 11, 0, 0), false, api.Clear},  // two knots
		{knotty, []int{1, 6}, cuts(0, 11, 0, 2), true, api.Clear},   // just one, of two places
		{strings.Replace(knotty, "mould 2", "mould 0", 1), []int{4, 3}, cuts(0, 0, 0, 4), true, api.Clear},
		{strings.Replace(knotty, "mould 2", "mould 0", 1), []int{4, 3}, cuts(0, 0, 0, 3), false, api.Clear},
		{strings.Replace(knotty, "mould 2", "mould 3", 1), []int{4, 3}, cuts(0, 0, 0, 7), true, api.Clear},
		{strings.Replace(knotty, "mould 2", "mould 3", 1), []int{4, 3}, cuts(0, 0, 0, 6), false, api.Clear},
		{textM, nil, nil, false, api.Many},
		{textM, []int{4, 3}, cutX(), false, api.Many},
		{textM, []int{4, 3, 3, 3}, cutX(), false, api.Many},
		{textM, []int{4, 3, 0}, nil, false, api.Range},
		{textM, []int{4, 3, 40}, cutX(), false, api.Clear},
		{textM, []int{4, 3, 41}, cutX(), false, api.Range},
		{textM, []int{most, 3, 3}, cutX(), false, api.Range},
		{textM, []int{4, 3, 3}, nil, false, api.Many},
		{textM, []int{4, 3, 3}, cutX()[:2], false, api.Many},
		{textM, []int{4, 3, 3}, append(cutX(), api.MouldCut{}), false, api.Many},
		{textM, []int{4, 3, 3}, cuts(2, 0, 0, 0, 0, 4), false, api.Absent},
		{textM, []int{4, 3, 3}, cuts(1, 0, -1, -1, 0, 4), false, api.Absent},
		{textM, []int{4, 3, 3}, cuts(1, -1, 2, 0, 0, 4), false, api.Range}, // cut by cut
		{textM, []int{4, 3, 3}, cuts(1, 0, 0, 0, 0, 41), false, api.Range},
		{textM, []int{4, 3, 3}, cuts(1, 0, 0, least, 0, most), false, api.Range},
		{piecesM, []int{4, 3, 3}, cutX(), false, api.Absent},
	} {
		if is, s := mould.Fits(parse(t, x.text), x.lengths, x.cuts); is != x.fits || s != x.s {
			t.Error(i, is, s)
		}
	}
}

func TestP4_1IsBoat(t *testing.T) {
	for i, x := range []struct {
		text    string
		lengths []int
		is      bool
		s       api.Snag
	}{
		{textM, []int{4, 3, 3}, true, api.Clear},
		{textM, []int{5, 3, 2}, true, api.Clear},
		{textM, []int{5, 3, 3}, false, api.Clear},
		{textM, []int{4, 3, 2}, false, api.Clear},
		{textM, []int{6, 3, 1}, false, api.Clear}, // the tape is right, the spans are not
		{textM, []int{4, 4, 3}, false, api.Clear},
		{headM, []int{5, 3, 3}, true, api.Clear},
		{headM, []int{5, 2, 3}, false, api.Clear},
		{textC, []int{4, 3, 3}, false, api.Clear},
		{piecesM + "tape 0+1+2 9..10\n", []int{5, 3, 2}, true, api.Clear},
		{piecesM + "tape 0+1+2 9..10\n", []int{5, 3, 3}, false, api.Clear},
		{piecesM + "tape 1 3\ntape 2 3\n", []int{4, 3, 3}, true, api.Clear},
		{piecesM + "tape 1 3\ntape 2 3\n", []int{4, 3, 2}, false, api.Clear},
		{textM, nil, false, api.Many},
		{textM, []int{4, 3}, false, api.Many},
		{textM, []int{4, 3, 3, 0}, false, api.Many},
		{textM, []int{4, 3, 0}, false, api.Range},
		{textM, []int{41, 3, 3}, false, api.Range},
		{textM, []int{40, 1, 3}, false, api.Clear},
	} {
		if is, s := mould.IsBoat(parse(t, x.text), x.lengths); is != x.is || s != x.s {
			t.Error(i, is, s)
		}
	}
}

func TestP4_1Everything(t *testing.T) {
	fits, boats := map[bool]int{}, map[bool]int{}
	eachBook(t, 600, func(t *testing.T, b api.MouldBook, o *oracle, r *rand.Rand) {
		for i, w := range b.Boards {
			if l, s := mould.Clear(b, i); !slices.Equal(l, clearSpans(w)) || s != api.Clear {
				t.Error("Clear", i, l, s)
			}
			for bears := range api.MaxMouldBears + 1 {
				if n, s := mould.Longest(b, i, bears); n != longest(w, bears) || s != api.Clear {
					t.Error("Longest", i, bears, n, s)
				}
			}
		}
		for range 10 {
			l := randomLengths(r, b)
			is := o.has(l)
			boats[is]++
			if got, s := mould.IsBoat(b, l); got != is || s != api.Clear {
				t.Error("IsBoat", l, got, s)
			}
			if len(b.Boards) == 0 {
				continue
			}
			x := randomCuts(r, o)
			do := does(b, l, x)
			fits[do]++
			if got, s := mould.Fits(b, l, x); got != do || s != api.Clear {
				t.Error("Fits", l, x, got, s)
			}
		}
	})
	if fits[true] < 500 || fits[false] < 500 || boats[true] < 500 || boats[false] < 500 {
		t.Error("the books are too much alike", fits, boats)
	}
}

// A stretch without knots has none, and is as long as it can be.
func TestP4_9Clear(t *testing.T) {
	spans := 0
	eachBook(t, 300, func(t *testing.T, b api.MouldBook, o *oracle, r *rand.Rand) {
		for i, w := range b.Boards {
			list, _ := mould.Clear(b, i)
			spans += len(list)
			free := func(place int) bool {
				return !slices.ContainsFunc(w.Knots, func(k api.Span) bool { return k.Low <= place && place <= k.High })
			}
			told := map[int]bool{}
			last := -2
			for _, x := range list {
				if x.Low <= last+1 || x.High >= w.Long || x.Low > 0 && free(x.Low-1) || x.High < w.Long-1 && free(x.High+1) {
					t.Error("not as long as it can be", i, x)
				}
				last = x.High
				for place := x.Low; place <= x.High; place++ {
					told[place] = true
				}
			}
			for place := range w.Long {
				if told[place] != free(place) {
					t.Error(i, place, list)
				}
			}
		}
	})
	if spans < 300 {
		t.Error("too few spans", spans)
	}
}

// A piece that bears more knots can be no shorter; one that is as long as is said can be cut, and none that is longer.
func TestP4_9Longest(t *testing.T) {
	longer := 0
	eachBook(t, 300, func(t *testing.T, b api.MouldBook, o *oracle, r *rand.Rand) {
		for i, w := range b.Boards {
			last := 0
			for bears := range api.MaxMouldBears + 1 {
				n, _ := mould.Longest(b, i, bears)
				if n < last || n > w.Long {
					t.Error("shorter", i, bears, n, last)
				}
				if n > last && bears > 0 {
					longer++
				}
				last = n
				for long := 1; long <= api.MaxMouldLong; long++ {
					alone := api.MouldBook{Saw: b.Saw, Pieces: []api.MouldPiece{{Name: "a", Length: one(long), Bears: bears}}, Boards: []api.MouldBoard{w}}
					if _, _, found, s := mould.Fewest(alone); found != (long <= n) || s != api.Clear {
						t.Error(i, bears, n, long, found, s)
					}
				}
			}
		}
	})
	if longer < 100 {
		t.Error("the knots are too few", longer)
	}
}
