package spile_test

import (
	"math/rand"
	"testing"

	"ribband/api"
	"ribband/spile"
)

func TestP7_3Examples(t *testing.T) {
	b := parse(t, textP)
	if sure, s := spile.Had(b); sure != api.Yes || s != api.Clear {
		t.Error(sure, s)
	}
	if n, found, s := spile.Surely(b); n != -3 || !found || s != api.Clear {
		t.Error(n, found, s)
	}
	if n, many, s := spile.Most(b); n != -3 || many != 6 || s != api.Clear {
		t.Error(n, many, s)
	}
}

// board is what is told of the board of a book.
type board struct {
	had    api.Sure
	surely int
	found  bool
	most   int
	boats  int
	s      api.Snag
}

func isBoard(t *testing.T, b api.SpileBook, want board) {
	t.Helper()
	if sure, s := spile.Had(b); sure != want.had || s != want.s {
		t.Error("Had", sure, s, want.had)
	}
	if n, found, s := spile.Surely(b); n != want.surely || found != want.found || s != want.s {
		t.Error("Surely", n, found, s, want.surely, want.found)
	}
	if n, many, s := spile.Most(b); n != want.most || many != want.boats || s != want.s {
		t.Error("Most", n, many, s, want.most, want.boats)
	}
}

func TestP7_3Boards(t *testing.T) {
	const even = "spile 10 1\npoint 10 0..9 9\npoint 10 0..9 "
	for _, x := range []struct {
		text string
		want board
	}{
		{textP, board{api.Yes, -3, true, -3, 6, api.Clear}},
		{textF, board{api.Yes, -3, true, -3, 2, api.Clear}},
		{textP + "check 2 7\n", board{api.Yes, -3, true, -3, 4, api.Clear}},
		{textP + "check 1 6\n", board{api.Yes, -5, true, -5, 1, api.Clear}}, // what is known makes the least number less
		{textP + "check 1 4\n", board{api.Yes, -3, true, -3, 2, api.Clear}},
		{textC, board{api.Open, 0, false, 0, 0, api.Foul}},
		{textN, board{api.No, 0, false, 0, 0, api.Clear}},
		{textS, board{api.No, 0, false, 0, 0, api.Clear}},
		{textO, board{api.Open, 0, false, -2, 5, api.Clear}}, // by -1 as many lie there
		{textO + "check 1 4..5\n", board{api.Yes, -1, true, -1, 5, api.Clear}},
		{textO + "check 1 4..6\n", board{api.Yes, 0, false, -2, 5, api.Clear}}, // in each boat by another number
		{textO + "check 1 5..6\n", board{api.Yes, -2, true, -2, 5, api.Clear}},
		{textO + "check 1 3\n", board{api.No, 0, false, 0, 0, api.Clear}},
		{textO + "check 1 3..4\n", board{api.Open, 0, false, -1, 2, api.Clear}},
		{textB, board{api.Yes, 8, true, 8, 15, api.Clear}},
		{textT, board{api.Yes, -1, true, -1, 1, api.Clear}},
		{textL, board{api.Yes, -3, true, -3, 8, api.Clear}},
		{even + "9\n", board{api.Open, 0, false, 0, 1, api.Clear}},
		{even + "8\n", board{api.Open, 0, false, 0, 2, api.Clear}},
		{even + "7\n", board{api.Open, 0, false, 0, 2, api.Clear}},
		{"spile 10 1\npoint 10 1..10 9\npoint 10 0..10 8\n", board{api.Yes, 1, true, 1, 3, api.Clear}},
		{"spile 10 1\npoint 10 0..10 9\npoint 10 0..10 9\n", board{api.Yes, 0, false, 0, 2, api.Clear}},
		{"spile 10 1\npoint 10 0..10 9\npoint 10 1..11 9\n", board{api.Open, 0, false, 1, 2, api.Clear}},
	} {
		t.Run(x.text, func(t *testing.T) { isBoard(t, parse(t, x.text), x.want) })
	}
}

func TestP7_3Everything(t *testing.T) {
	had, sure, snags := map[api.Sure]int{}, map[bool]int{}, map[api.Snag]int{}
	eachBook(t, 400, func(t *testing.T, b api.SpileBook, o *oracle, r *rand.Rand) {
		want := board{had: o.had(), s: o.snag()}
		want.surely, want.found = o.surely()
		want.most, want.boats = o.most()
		isBoard(t, b, want)
		had[want.had]++
		snags[want.s]++
		sure[want.had == api.Yes && !want.found]++
	})
	if had[api.Yes] < 60 || had[api.No] < 20 || had[api.Open] < 80 || snags[api.Foul] < 40 || sure[true] < 5 {
		t.Error("the books are too much alike", had, sure, snags)
	}
}

// What Surely says does in all boats, so Had is Yes; Most is no fewer than by any other number.
func TestP7_8Board(t *testing.T) {
	sures := map[bool]int{}
	eachBook(t, 200, func(t *testing.T, b api.SpileBook, o *oracle, r *rand.Rand) {
		shift, found, s := spile.Surely(b)
		if s != api.Clear {
			return
		}
		sures[found]++
		by, boats, _ := spile.Most(b)
		if sure, _ := spile.Had(b); found && sure != api.Yes || (boats == 0) != (sure == api.No) {
			t.Error("Had", sure, found, boats)
		}
		if found && (by != shift || boats != len(o.ships)) {
			t.Error("Most", shift, by, boats)
		}
		for n := farDown; n <= farUp; n++ {
			many := 0
			for _, x := range o.ships {
				if lie(b, x.gaps, n) {
					many++
				}
			}
			if found && n == shift && many != len(o.ships) || n < shift && many == len(o.ships) {
				t.Error("Surely", n, many)
			}
			if many > boats || n == by && many != boats || many > 0 && n < by && many == boats {
				t.Error("Most", by, boats, n, many)
			}
		}
	})
	if sures[true] < 30 || sures[false] < 50 {
		t.Error("the books are too much alike", sures)
	}
}
