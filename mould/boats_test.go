package mould_test

import (
	"math/rand"
	"slices"
	"strings"
	"testing"

	"ribband/api"
	"ribband/mould"
)

func TestP4_2Examples(t *testing.T) {
	m := parse(t, textM)
	if n, s := mould.Boats(m); n != 2 || s != api.Clear {
		t.Error(n, s)
	}
	if l, s := mould.Lengths(m, 0); !slices.Equal(l, []int{4, 5}) || s != api.Clear {
		t.Error(l, s)
	}
	if x, s := mould.Total(m); x != one(10) || s != api.Clear {
		t.Error(x, s)
	}
	if sure, s := mould.Does(m, cutX()); sure != api.Yes || s != api.Clear {
		t.Error(sure, s)
	}
	if sure, s := mould.Does(m, cutY()); sure != api.Open || s != api.Clear {
		t.Error(sure, s)
	}
	if l, s := mould.Spare(m, cutX()); !slices.Equal(l, []int{1, 1}) || s != api.Clear {
		t.Error(l, s)
	}
	if l, s := mould.Spare(m, cutY()); len(l) > 0 || s != api.Scant {
		t.Error(l, s)
	}
}

// Tapes leave fewer boats, or none.
func TestP4_2Known(t *testing.T) {
	for i, x := range []struct {
		text      string
		boats     int
		keel, arm []int
		total     api.Span
		s         api.Snag
	}{
		{piecesM, 4, []int{4, 5}, []int{2, 3}, to(9, 11), api.Clear},
		{headM, 4, []int{4, 5}, []int{2, 3}, to(9, 11), api.Clear},
		{textM, 2, []int{4, 5}, []int{2, 3}, one(10), api.Clear},
		{headM + "tape 0+2 7..8\n", 3, []int{4, 5}, []int{2, 3}, to(10, 11), api.Clear},
		{headM + "tape 0+1+2 11\n", 1, []int{5}, []int{3}, one(11), api.Clear},
		{headM + "tape 1 3\n", 4, []int{4, 5}, []int{2, 3}, to(9, 11), api.Clear},
		{textM + "tape 0 0..4\n", 1, []int{4}, []int{3}, one(10), api.Clear},
		{textM + "tape 1+2 5\n", 1, []int{5}, []int{2}, one(10), api.Clear},
		{textC, 0, nil, nil, to(0, 0), api.Foul},
		{piecesM + "tape 1 2\n", 0, nil, nil, to(0, 0), api.Foul},
	} {
		b := parse(t, x.text)
		if n, s := mould.Boats(b); n != x.boats || s != api.Clear {
			t.Error(i, "Boats", n, s)
		}
		if l, s := mould.Lengths(b, 0); !slices.Equal(l, x.keel) || s != x.s {
			t.Error(i, "Lengths", l, s)
		}
		if l, s := mould.Lengths(b, 2); !slices.Equal(l, x.arm) || s != x.s {
			t.Error(i, "Lengths", l, s)
		}
		if v, s := mould.Total(b); v != x.total || s != x.s {
			t.Error(i, "Total", v, s)
		}
	}
	for _, piece := range []int{-1, 3, most, least} {
		if l, s := mould.Lengths(parse(t, textM), piece); len(l) > 0 || s != api.Absent {
			t.Error(piece, l, s)
		}
	}
}

func TestP4_2Cuttings(t *testing.T) {
	ash := headM + "board ash 13 none\ntape 0+2 7\n"
	for i, x := range []struct {
		text  string
		cuts  []api.MouldCut
		does  api.Sure
		s     api.Snag
		spare []int
		l     api.Snag
	}{
		{textM, cutX(), api.Yes, api.Clear, []int{1, 1}, api.Clear},
		{textM, cuts(1, 1, 0, 0, 0, 5), api.Yes, api.Clear, []int{0, 0}, api.Clear},
		{textM, cutY(), api.Open, api.Clear, nil, api.Scant},
		{textM, cuts(1, 2, 0, 0, 0, 6), api.No, api.Clear, nil, api.Scant}, // each piece is Open, but never both
		{textM, cuts(1, 2, 0, 0, 0, 4), api.Open, api.Clear, nil, api.Scant},
		{textM, cuts(1, 0, 0, 0, 0, 3), api.No, api.Clear, nil, api.Scant},
		{textM, cuts(1, 40, 0, 0, 0, 4), api.No, api.Clear, nil, api.Scant},
		{textM + "tape 2 2\n", cutY(), api.Yes, api.Clear, []int{0, 1}, api.Clear},
		{textM + "tape 0 4\n", cutX(), api.Yes, api.Clear, []int{1, 2}, api.Clear}, // as long as in any boat, not as in the span
		{ash, cutX(), api.Yes, api.Clear, []int{1, 1, 13}, api.Clear},
		{ash, cuts(2, 0, 2, 6, 2, 10), api.Yes, api.Clear, []int{8, 6, 0}, api.Clear}, // each one as long as it is in any boat
		{ash, cuts(2, 0, 2, 5, 2, 9), api.Open, api.Clear, nil, api.Scant},            // keel and arm are never both that long
		{ash, cuts(2, 8, 2, 0, 2, 4), api.Yes, api.Clear, []int{8, 6, 0}, api.Clear},  // the last piece is not the last one on the board
		{ash, cuts(2, 4, 2, 0, 0, 4), api.Yes, api.Clear, []int{1, 6, 4}, api.Clear},  //
		{textC, cutX(), api.Open, api.Foul, nil, api.Foul},                            // before Scant
		{textC, cutY(), api.Open, api.Foul, nil, api.Foul},                            //
		{textC, cutX()[:2], api.Open, api.Many, nil, api.Many},                        // before Foul
		{textM, nil, api.Open, api.Many, nil, api.Many},                               //
		{textM, cuts(2, 0, 0, 0, 0, 4), api.Open, api.Absent, nil, api.Absent},        //
		{textM, cuts(1, 41, 0, 0, 0, 4), api.Open, api.Range, nil, api.Range},         //
		{piecesM, cuts(0, 0, 0, 0, 0, 4), api.Open, api.Absent, nil, api.Absent},      //
		{piecesM + "tape 0 9\n", nil, api.Open, api.Many, nil, api.Many},              //
		{piecesM + "tape 0 9\n", cutX(), api.Open, api.Absent, nil, api.Absent},       //
		{strings.Replace(textM, "3\nboard", "none\nboard", 1), cuts(1, 0, 0, 0, 0, 5), api.Yes, api.Clear, []int{0, 1}, api.Clear},
	} {
		b := parse(t, x.text)
		if v, s := mould.Does(b, x.cuts); v != x.does || s != x.s {
			t.Error(i, "Does", v, s)
		}
		if l, s := mould.Spare(b, x.cuts); !slices.Equal(l, x.spare) || s != x.l {
			t.Error(i, "Spare", l, s)
		}
	}
}

func TestP4_2Everything(t *testing.T) {
	snags, sures := map[api.Snag]int{}, map[api.Sure]int{}
	eachBook(t, 800, func(t *testing.T, b api.MouldBook, o *oracle, r *rand.Rand) {
		want := o.snag()
		snags[want]++
		if n, s := mould.Boats(b); n != len(o.boats) || s != api.Clear {
			t.Error("Boats", n, s, len(o.boats))
		}
		for piece := range b.Pieces {
			if l, s := mould.Lengths(b, piece); !slices.Equal(l, o.lengths(piece)) || s != want {
				t.Error("Lengths", piece, l, s)
			}
		}
		if x, s := mould.Total(b); x != o.total() || s != want {
			t.Error("Total", x, s)
		}
		if len(b.Boards) == 0 {
			return
		}
		for range 10 {
			x := randomCuts(r, o)
			sure := o.does(x)
			if want == api.Clear {
				sures[sure]++
			}
			if v, s := mould.Does(b, x); v != sure || s != want {
				t.Error("Does", x, v, s, sure)
			}
			spare, scant := o.spare(x), want
			if want == api.Clear && sure != api.Yes {
				scant = api.Scant
			}
			if scant != api.Clear {
				spare = nil
			}
			if l, s := mould.Spare(b, x); !slices.Equal(l, spare) || s != scant {
				t.Error("Spare", x, l, s, spare)
			}
		}
	})
	if snags[api.Clear] < 300 || snags[api.Foul] < 50 || sures[api.Yes] < 300 || sures[api.No] < 300 || sures[api.Open] < 100 {
		t.Error("the books are too much alike", snags, sures)
	}
}

// A book of the greatest size: each of 27 lists of lengths is a boat.
func TestGreatestBook(t *testing.T) {
	b := api.MouldBook{Saw: api.MaxMouldSaw}
	for i := range api.MaxMouldPieces {
		b.Pieces = append(b.Pieces, api.MouldPiece{Name: names()[i], Length: to(38, 40), Bears: api.MaxMouldBears})
	}
	for i := range api.MaxMouldBoards {
		b.Boards = append(b.Boards, api.MouldBoard{Name: names()[i], Long: api.MaxMouldLong, Knots: knots(one(0), one(38))})
	}
	for range api.MaxMouldTapes {
		b.Tapes = append(b.Tapes, api.MouldTape{Pieces: []int{0, 1, 2}, Sum: to(0, api.MaxMouldSum)})
	}
	if n, s := mould.Boats(b); n != 27 || s != api.Clear {
		t.Error(n, s)
	}
	if x, s := mould.Total(b); x != to(114, 120) || s != api.Clear {
		t.Error(x, s)
	}
	if piece, left, s := mould.Ask(b); piece != 0 || left != 9 || s != api.Clear {
		t.Error(piece, left, s)
	}
	want := cuts(0, 0, 1, 0, 2, 0)
	if x, n, found, s := mould.Fewest(b); !slices.Equal(x, want) || n != 3 || !found || s != api.Clear {
		t.Error(x, n, found, s)
	}
	if x, n, found, s := mould.Shortest(b); !slices.Equal(x, want) || n != 120 || !found || s != api.Clear {
		t.Error(x, n, found, s)
	}
	if l, s := mould.Needed(b); !slices.Equal(l, []int{0, 1, 2}) || s != api.Clear {
		t.Error(l, s)
	}
	b.Tapes[3].Sum = one(120)
	if n, s := mould.Boats(b); n != 1 || s != api.Clear {
		t.Error(n, s)
	}
	for i := range b.Pieces {
		b.Pieces[i].Length = one(1)
		b.Boards[i].Knots = knots(to(0, 38))
	}
	b.Tapes = nil
	for i := range b.Pieces {
		b.Pieces[i].Bears = 0
	}
	want = cuts(0, 39, 1, 39, 2, 39) // one place is clear on each board
	if x, n, found, s := mould.Fewest(b); !slices.Equal(x, want) || n != 3 || !found || s != api.Clear {
		t.Error(x, n, found, s)
	}
}

func TestP4_6WhateverTheyAre(t *testing.T) {
	eachBook(t, 150, func(t *testing.T, b api.MouldBook, o *oracle, r *rand.Rand) {
		for _, l := range o.boats {
			tellsRight(t, r, b, o, l)
		}
		// tapes that are right about lengths leave them a boat
		l := o.ways[r.Intn(len(o.ways))]
		b = clone(b)
		b.Tapes = nil
		for range r.Intn(api.MaxMouldTapes + 1) {
			b.Tapes = append(b.Tapes, tapeAbout(r, l))
		}
		tellsRight(t, r, b, newOracle(b), l)
	})
}

// What is told is so of a boat; what is open is so in one and not in another one.
func TestP4_7NoOthers(t *testing.T) {
	opens := 0
	eachBook(t, 400, func(t *testing.T, b api.MouldBook, o *oracle, r *rand.Rand) {
		if len(o.boats) == 0 {
			return
		}
		for piece := range b.Pieces {
			l, _ := mould.Lengths(b, piece)
			for _, n := range l {
				if o.count(piece, n) == 0 {
					t.Error("Lengths", piece, n)
				}
			}
		}
		x, _ := mould.Total(b)
		for _, n := range []int{x.Low, x.High} {
			if !slices.ContainsFunc(o.boats, func(l []int) bool { return sum(l) == n }) {
				t.Error("Total", x, n)
			}
		}
		if len(b.Boards) == 0 {
			return
		}
		for range 20 {
			x := randomCuts(r, o)
			sure, _ := mould.Does(b, x)
			one := slices.ContainsFunc(o.boats, func(l []int) bool { return does(b, l, x) })
			two := slices.ContainsFunc(o.boats, func(l []int) bool { return !does(b, l, x) })
			if (sure == api.Open) != (one && two) || sure == api.Yes && two || sure == api.No && one {
				t.Error("Does", x, sure, one, two)
			}
			if sure == api.Open {
				opens++
			}
		}
	})
	if opens < 100 {
		t.Error("too little is open", opens)
	}
}
