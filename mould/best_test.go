package mould_test

import (
	"math/rand"
	"reflect"
	"slices"
	"strings"
	"testing"

	"ribband/api"
	"ribband/mould"
)

func TestP4_3Examples(t *testing.T) {
	m := parse(t, textM)
	if x, n, found, s := mould.Fewest(m); !slices.Equal(x, cutX()) || n != 2 || !found || s != api.Clear {
		t.Error(x, n, found, s)
	}
	if x, n, found, s := mould.Shortest(m); !slices.Equal(x, cutX()) || n != 14 || !found || s != api.Clear {
		t.Error(x, n, found, s)
	}
	if l, s := mould.Needed(m); !slices.Equal(l, []int{0, 1}) || s != api.Clear {
		t.Error(l, s)
	}
	twelve, s := mould.Add(m, api.MouldBoard{Name: "ash", Long: 12})
	if x, n, found, l := mould.Fewest(twelve); !slices.Equal(x, cutX()) || n != 2 || !found || l != api.Clear || s != api.Clear {
		t.Error(x, n, found, l, s)
	}
	thirteen, s := mould.Add(m, api.MouldBoard{Name: "ash", Long: 13})
	want := cuts(2, 0, 2, 6, 2, 10)
	if x, n, found, l := mould.Fewest(thirteen); !slices.Equal(x, want) || n != 1 || !found || l != api.Clear || s != api.Clear {
		t.Error(x, n, found, l, s)
	}
	if x, n, found, l := mould.Shortest(thirteen); !slices.Equal(x, want) || n != 13 || !found || l != api.Clear {
		t.Error(x, n, found, l)
	}
}

func TestP4_3Best(t *testing.T) {
	const two = "mould 1\npiece p 4 0\npiece q 4 0\n"
	for i, x := range []struct {
		text   string
		few    []api.MouldCut
		boards int
		short  []api.MouldCut
		long   int
		needed []int
		s      api.Snag
	}{
		{piecesM, nil, 0, nil, 0, nil, api.Clear},
		{piecesM + "board elm 8 3\n", nil, 0, nil, 0, []int{0}, api.Clear},
		{piecesM + "board a 3 none\nboard b 3 none\nboard c 3 none\n", nil, 0, nil, 0, []int{0, 1, 2}, api.Clear},
		{textC, nil, 0, nil, 0, nil, api.Foul},
		{two + "board a 9 none\n", cuts(0, 0, 0, 5), 1, cuts(0, 0, 0, 5), 9, []int{0}, api.Clear},
		{two + "board a 8 none\n", nil, 0, nil, 0, []int{0}, api.Clear},
		{strings.Replace(two, "mould 1", "mould 0", 1) + "board a 8 none\n", cuts(0, 0, 0, 4), 1, cuts(0, 0, 0, 4), 8, []int{0}, api.Clear},
		// of several that take as many the least one: the lesser board, then the lesser place
		{two + "board a 9 none\nboard b 9 none\n", cuts(0, 0, 0, 5), 1, cuts(0, 0, 0, 5), 9, nil, api.Clear},
		{two + "board a 12 0\nboard b 9 none\n", cuts(0, 1, 0, 6), 1, cuts(1, 0, 1, 5), 9, nil, api.Clear},
		{two + "board a 4 none\nboard b 5 0\nboard c 4 none\n", cuts(0, 0, 1, 1), 2, cuts(0, 0, 2, 0), 8, nil, api.Clear},
		{two + "board a 5 0\nboard b 4 none\n", cuts(0, 1, 1, 0), 2, cuts(0, 1, 1, 0), 9, []int{0, 1}, api.Clear},
		// the last place of an earlier board is before the first one of a later board
		{"mould 3\npiece p 1 0\npiece q 37 1\nboard a 40 0..38\nboard b 1 none\nboard c 37 none\n", cuts(0, 39, 2, 0), 2, cuts(1, 0, 2, 0), 38, nil, api.Clear},
		// as short, but lesser
		{two + "board a 5 none\nboard b 5 none\nboard c 10 none\n", cuts(2, 0, 2, 5), 1, cuts(0, 0, 1, 0), 10, nil, api.Clear},
		{two + "board c 10 none\nboard a 5 none\nboard b 5 none\n", cuts(0, 0, 0, 5), 1, cuts(0, 0, 0, 5), 10, nil, api.Clear},
		// a long board for all pieces, or for two of them
		{"mould 0\npiece p 2 0\npiece q 2 0\npiece r 2 0\nboard a 2 none\nboard b 2 none\nboard c 7 none\n", cuts(2, 0, 2, 2, 2, 4), 1, cuts(2, 0, 2, 2, 2, 4), 7, []int{2}, api.Clear},
		{"mould 1\npiece p 2 0\npiece q 2 0\npiece r 2 0\nboard a 2 none\nboard b 2 none\nboard c 7 none\n", cuts(0, 0, 2, 0, 2, 3), 2, cuts(0, 0, 2, 0, 2, 3), 9, []int{2}, api.Clear},
		{"mould 1\npiece p 2 0\npiece q 2 0\npiece r 2 0\nboard a 2 none\nboard b 2 none\nboard c 2 none\n", cuts(0, 0, 1, 0, 2, 0), 3, cuts(0, 0, 1, 0, 2, 0), 6, []int{0, 1, 2}, api.Clear},
		// an earlier piece behind a later one
		{"mould 1\npiece p 4 0\npiece q 4 1\nboard a 9 3\n", cuts(0, 5, 0, 0), 1, cuts(0, 5, 0, 0), 9, []int{0}, api.Clear},
		{"mould 1\npiece p 4 0\npiece q 4 1\nboard a 9 2..3\nboard b 9 0..1+3..4\n", cuts(0, 5, 0, 0), 1, cuts(0, 5, 0, 0), 9, []int{0}, api.Clear},
		// knots that a piece bears
		{"mould 1\npiece p 4 2\npiece q 4 0\nboard a 9 1+3\n", cuts(0, 0, 0, 5), 1, cuts(0, 0, 0, 5), 9, []int{0}, api.Clear},
		{"mould 1\npiece p 4 1\npiece q 4 0\nboard a 9 1+3\n", nil, 0, nil, 0, []int{0}, api.Clear},
		// twelve places would do for each boat, but no cutting does for all
		{headM + "board ash 12 none\ntape 0+2 7\n", cutX(), 2, cutX(), 14, nil, api.Clear},
		{piecesM + "board ash 12 none\ntape 0+2 7\n", nil, 0, nil, 0, []int{0}, api.Clear},
		{piecesM + "board ash 12 none\ntape 0 4\ntape 0+2 7\n", cuts(0, 0, 0, 5, 0, 9), 1, cuts(0, 0, 0, 5, 0, 9), 12, []int{0}, api.Clear},
		{piecesM + "board ash 12 none\ntape 2 2\ntape 0+2 7\n", cuts(0, 0, 0, 6, 0, 10), 1, cuts(0, 0, 0, 6, 0, 10), 12, []int{0}, api.Clear},
		{piecesM + "board long 40 none\n" + boardsM, cuts(0, 0, 0, 6, 0, 10), 1, cuts(2, 0, 1, 0, 1, 4), 14, nil, api.Clear},
		{strings.Replace(piecesM, "mould 1", "mould 3", 1) + "board long 40 none\n", cuts(0, 0, 0, 8, 0, 14), 1, cuts(0, 0, 0, 8, 0, 14), 40, []int{0}, api.Clear},
	} {
		b := parse(t, x.text)
		if l, n, found, s := mould.Fewest(b); !slices.Equal(l, x.few) || n != x.boards || found != (x.few != nil) || s != x.s {
			t.Error(i, "Fewest", l, n, found, s)
		}
		if l, n, found, s := mould.Shortest(b); !slices.Equal(l, x.short) || n != x.long || found != (x.short != nil) || s != x.s {
			t.Error(i, "Shortest", l, n, found, s)
		}
		if l, s := mould.Needed(b); !slices.Equal(l, x.needed) || s != x.s {
			t.Error(i, "Needed", l, s)
		}
	}
}

func TestP4_3Everything(t *testing.T) {
	found, taken, need, differ := map[bool]int{}, map[int]int{}, map[int]int{}, 0
	eachBook(t, 1500, func(t *testing.T, b api.MouldBook, o *oracle, r *rand.Rand) {
		want := o.snag()
		few, many := o.fewest()
		short, long := o.shortest()
		list := o.needed()
		if want == api.Clear {
			found[few != nil]++
			taken[many]++
			need[len(list)]++
		}
		if !slices.Equal(few, short) {
			differ++
		}
		if x, n, ok, s := mould.Fewest(b); !slices.Equal(x, few) || n != many || ok != (few != nil) || s != want {
			t.Error("Fewest", x, n, ok, s, few, many)
		}
		if x, n, ok, s := mould.Shortest(b); !slices.Equal(x, short) || n != long || ok != (short != nil) || s != want {
			t.Error("Shortest", x, n, ok, s, short, long)
		}
		if l, s := mould.Needed(b); !slices.Equal(l, list) || s != want {
			t.Error("Needed", l, s, list)
		}
	})
	if found[true] < 300 || found[false] < 300 || taken[1] < 100 || taken[2] < 50 || taken[3] < 10 || need[0] < 100 || need[1] < 50 || need[2] < 50 || need[3] < 10 || differ < 50 {
		t.Error("the books are too much alike", found, taken, need, differ)
	}
}

func compareCuts(x, y []api.MouldCut) int {
	return slices.CompareFunc(x, y, func(a, b api.MouldCut) int {
		if a.Board != b.Board {
			return a.Board - b.Board
		}
		return a.From - b.From
	})
}

// The best cuttings surely do; none that surely does takes fewer boards, or shorter ones, nor is a lesser one of as many, or as short ones.
func TestP4_8Best(t *testing.T) {
	tried := 0
	eachBook(t, 300, func(t *testing.T, b api.MouldBook, o *oracle, r *rand.Rand) {
		few, boards, found, s := mould.Fewest(b)
		short, long, also, _ := mould.Shortest(b)
		if s != api.Clear {
			return
		}
		if found != also || found != (len(o.sure) > 0) {
			t.Fatal(found, also)
		}
		if !found {
			return
		}
		for _, x := range [][]api.MouldCut{few, short} {
			if sure, s := mould.Does(b, x); sure != api.Yes || s != api.Clear {
				t.Error(x, sure, s)
			}
		}
		many, _ := boardsOf(b, few)
		if _, n := boardsOf(b, short); many != boards || n != long {
			t.Error(few, boards, short, long)
		}
		for _, x := range o.sure {
			tried++
			many, n := boardsOf(b, x)
			if many < boards || many == boards && compareCuts(x, few) < 0 {
				t.Error("Fewest", x, few)
			}
			if n < long || n == long && compareCuts(x, short) < 0 {
				t.Error("Shortest", x, short)
			}
		}
	})
	if tried < 1000 {
		t.Error("too few cuttings", tried)
	}
}

// Without a needed board nothing does, without another one something does.
func TestP4_8Needed(t *testing.T) {
	seen := map[bool]int{}
	eachBook(t, 300, func(t *testing.T, b api.MouldBook, o *oracle, r *rand.Rand) {
		needed, s := mould.Needed(b)
		if s != api.Clear {
			return
		}
		for board := range b.Boards {
			is := slices.Contains(needed, board)
			seen[is]++
			left, s := mould.Lose(b, board)
			if _, _, found, l := mould.Fewest(left); found == is || s != api.Clear || l != api.Clear {
				t.Error(board, needed, found, s, l)
			}
		}
	})
	if seen[true] < 50 || seen[false] < 50 {
		t.Error("the books are too much alike", seen)
	}
}

// easier returns books whose boards have no other indexes, and that ask for less, or have more.
func easier(r *rand.Rand, b api.MouldBook) (books []api.MouldBook) {
	change := func(isThere bool, how func(x *api.MouldBook)) {
		if isThere {
			x := clone(b)
			how(&x)
			books = append(books, x)
		}
	}
	piece, board := r.Intn(len(b.Pieces)), r.Intn(max(len(b.Boards), 1))
	change(b.Saw > 0, func(x *api.MouldBook) { x.Saw-- })
	change(b.Pieces[piece].Bears < api.MaxMouldBears, func(x *api.MouldBook) { x.Pieces[piece].Bears++ })
	change(len(b.Boards) < api.MaxMouldBoards, func(x *api.MouldBook) {
		x.Boards = append(x.Boards, randomBoard(r, "new", 9))
	})
	if len(b.Boards) == 0 {
		return books
	}
	change(b.Boards[board].Long < api.MaxMouldLong, func(x *api.MouldBook) { x.Boards[board].Long++ })
	change(len(b.Boards[board].Knots) > 0, func(x *api.MouldBook) {
		k := r.Intn(len(b.Boards[board].Knots))
		x.Boards[board].Knots = slices.Delete(x.Boards[board].Knots, k, k+1)
	})
	return books
}

// One more board, a longer one, one knot less, a thinner saw, and pieces that bear more never make it harder.
func TestP4_11Easier(t *testing.T) {
	tried, fewer, now := 0, 0, 0
	eachBook(t, 400, func(t *testing.T, b api.MouldBook, o *oracle, r *rand.Rand) {
		_, boards, found, s := mould.Fewest(b)
		if s != api.Clear {
			return
		}
		for _, x := range easier(r, b) {
			tried++
			for _, cuts := range o.sure[:min(len(o.sure), 50)] {
				if sure, s := mould.Does(x, cuts); sure != api.Yes || s != api.Clear {
					t.Error(x, cuts, sure, s)
				}
			}
			_, n, ok, s := mould.Fewest(x)
			if s != api.Clear || found && (!ok || n > boards) {
				t.Error(x, n, ok, s, boards)
			}
			if found && n < boards {
				fewer++
			}
			if ok && !found {
				now++
			}
		}
	})
	if tried < 500 || fewer < 10 || now < 30 {
		t.Error("the books are too much alike", tried, fewer, now)
	}
}

// The order of boards changes no more than indexes.
func TestP4_12Boards(t *testing.T) {
	tried := 0
	eachBook(t, 300, func(t *testing.T, b api.MouldBook, o *oracle, r *rand.Rand) {
		if len(b.Boards) < 2 {
			return
		}
		tried++
		order := r.Perm(len(b.Boards)) // the new indexes
		x := clone(b)
		for board, w := range b.Boards {
			x.Boards[order[board]] = w
		}
		for board := range b.Boards {
			one, _ := mould.Clear(b, board)
			if two, s := mould.Clear(x, order[board]); !slices.Equal(one, two) || s != api.Clear {
				t.Error("Clear", order, board, one, two, s)
			}
			for bears := range api.MaxMouldBears + 1 {
				one, _ := mould.Longest(b, board, bears)
				if two, s := mould.Longest(x, order[board], bears); one != two || s != api.Clear {
					t.Error("Longest", order, board, bears, one, two, s)
				}
			}
		}
		for range 10 {
			cuts := randomCuts(r, o)
			turned := slices.Clone(cuts)
			for i := range turned {
				turned[i].Board = order[cuts[i].Board]
			}
			one, s := mould.Does(b, cuts)
			if two, l := mould.Does(x, turned); one != two || s != l {
				t.Error("Does", order, cuts, one, two, s, l)
			}
			spare, s := mould.Spare(b, cuts)
			other, l := mould.Spare(x, turned)
			if s != l || len(spare) != len(other) {
				t.Error("Spare", order, cuts, spare, other, s, l)
			}
			for board := range spare {
				if spare[board] != other[order[board]] {
					t.Error("Spare", order, cuts, spare, other)
				}
			}
		}
		_, many, found, s := mould.Fewest(b)
		if _, n, ok, l := mould.Fewest(x); n != many || ok != found || s != l {
			t.Error("Fewest", order, many, n, found, ok, s, l)
		}
		_, long, _, _ := mould.Shortest(b)
		if _, n, _, _ := mould.Shortest(x); n != long {
			t.Error("Shortest", order, long, n)
		}
		needed, _ := mould.Needed(b)
		other, _ := mould.Needed(x)
		if len(needed) != len(other) || !slices.IsSorted(other) {
			t.Error("Needed", order, needed, other)
		}
		for _, board := range needed {
			if !slices.Contains(other, order[board]) {
				t.Error("Needed", order, needed, other)
			}
		}
	})
	if tried < 100 {
		t.Error("too few books", tried)
	}
}

// The order of tapes changes no more than indexes.
func TestP4_12Tapes(t *testing.T) {
	tried := 0
	eachBook(t, 300, func(t *testing.T, b api.MouldBook, o *oracle, r *rand.Rand) {
		if len(b.Tapes) < 2 {
			return
		}
		tried++
		order := r.Perm(len(b.Tapes))
		x := clone(b)
		for i, tape := range b.Tapes {
			x.Tapes[order[i]] = tape
		}
		n := likelyNews(r, o)
		one, two := calls(b, n), calls(x, n)
		for i := range one {
			same := reflect.DeepEqual(one[i], two[i])
			switch first := one[i][0].(type) {
			case api.MouldBook: // it has the tapes
				same = one[i][1] == two[i][1]
			case string:
				same = len(first) == len(two[i][0].(string))
			}
			if i == clashCall {
				same = len(one[i][0].([]int)) == len(two[i][0].([]int)) && one[i][1] == two[i][1]
			}
			if !same {
				t.Error(order, i, one[i], two[i])
			}
		}
	})
	if tried < 100 {
		t.Error("too few books", tried)
	}
}
