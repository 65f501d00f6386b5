package mould_test

import (
	"math/rand"
	"reflect"
	"slices"
	"strings"
	"testing"

	"ribband/api"
	"ribband/mould"
)

func TestP4_4Examples(t *testing.T) {
	m := parse(t, textM)
	if piece, left, s := mould.Ask(m); piece != 0 || left != 1 || s != api.Clear {
		t.Error(piece, left, s)
	}
	now, s := mould.Measure(m, 0, one(5))
	if n, _ := mould.Boats(now); n != 1 || s != api.Clear {
		t.Error(now, n, s)
	}
	if l, s := mould.Clash(parse(t, textC)); !slices.Equal(l, []int{0, 1, 2}) || s != api.Clear {
		t.Error(l, s)
	}
	now, s = mould.Add(m, api.MouldBoard{Name: "ash", Long: 12})
	if text := printed(t, now); text != headM+"board ash 12 none\ntape 0+2 7\n" || s != api.Clear {
		t.Error(text, s)
	}
}

func TestP4_4Clash(t *testing.T) {
	for i, x := range []struct {
		text string
		want []int
	}{
		{piecesM, nil},
		{textM, nil},
		{textC, []int{0, 1, 2}},
		{textM + "tape 0 6\n", []int{1}},
		{textM + "tape 0 4\ntape 1 4\ntape 2 2\n", []int{2}}, // one alone, though three others clash
		{textM + "tape 0 9\ntape 1 9\n", []int{1}},           // the first one alone
		{headM + "tape 0 4\ntape 2 3\ntape 0 5\n", []int{0, 2}},
		{headM + "tape 0 4\ntape 0 5\ntape 0 4\n", []int{0, 1}}, // of several lists the least one
		{headM + "tape 2 2\ntape 0 4\ntape 0 5\ntape 2 3\n", []int{0, 3}},
		{headM + "tape 0+2 6\ntape 0+1+2 10\n", []int{0, 1}},
		{headM + "tape 0 4..5\ntape 0+2 7..8\ntape 0 4\ntape 2 2\n", []int{1, 2, 3}}, // the first one is innocent
		{piecesM + "tape 0+1+2 120\n", []int{0}},
		{piecesM + "tape 0 0\n", []int{0}},
	} {
		if l, s := mould.Clash(parse(t, x.text)); !slices.Equal(l, x.want) || s != api.Clear {
			t.Error(i, l, s)
		}
	}
}

func TestP4_4Ask(t *testing.T) {
	for i, x := range []struct {
		text        string
		piece, left int
		s           api.Snag
	}{
		{textM, 0, 1, api.Clear}, // the arm would do as well
		{piecesM, 0, 2, api.Clear},
		{textM + "tape 0 5\n", -1, 1, api.Clear},
		{piecesM + "tape 2 3\n", 0, 1, api.Clear},
		{piecesM + "tape 0 4\n", 2, 1, api.Clear},
		{"mould 0\npiece a 1 0\n", -1, 1, api.Clear},
		{"mould 0\npiece a 1..2 0\npiece b 1..3 0\n", 1, 2, api.Clear},
		{"mould 0\npiece a 1..3 0\npiece b 1..3 0\n", 0, 3, api.Clear},
		{"mould 0\npiece a 1..3 0\npiece b 1..3 0\ntape 0+1 2..3\n", 0, 2, api.Clear},
		{"mould 0\npiece a 1..2 0\npiece b 1..3 0\npiece c 1..3 0\ntape 1+2 4\n", 1, 2, api.Clear},
		{textC, 0, 0, api.Foul},
	} {
		if piece, left, s := mould.Ask(parse(t, x.text)); piece != x.piece || left != x.left || s != x.s {
			t.Error(i, piece, left, s)
		}
	}
}

func TestP4_4Measure(t *testing.T) {
	for i, x := range []struct {
		piece int
		x     api.Span
		want  string
		s     api.Snag
	}{
		{0, one(5), strings.Replace(textM, "4..5", "5", 1), api.Clear},
		{0, to(1, 4), strings.Replace(textM, "4..5", "4", 1), api.Clear},
		{0, to(5, 40), strings.Replace(textM, "4..5", "5", 1), api.Clear},
		{0, to(4, 5), textM, api.Clear},
		{0, to(1, 40), textM, api.Clear},
		{1, one(3), textM, api.Clear},
		{2, one(2), strings.Replace(textM, "2..3", "2", 1), api.Clear},
		{0, to(6, 40), "", api.Foul},
		{0, to(1, 3), "", api.Foul},
		{0, to(0, 4), "", api.Range},
		{0, to(4, 41), "", api.Range},
		{0, to(5, 4), "", api.Range},
		{0, to(least, most), "", api.Range},
		{0, to(most, least), "", api.Range},
		{3, one(3), "", api.Absent},
		{-1, to(2, 1), "", api.Absent},
		{most, one(3), "", api.Absent},
	} {
		now, s := mould.Measure(parse(t, textM), x.piece, x.x)
		if text, _ := mould.Print(now); text != x.want || s != x.s {
			t.Error(i, text, s)
		}
	}
	// the length is left something, but a tape is wrong then
	b := parse(t, textM+"tape 2 3\n")
	if now, s := mould.Measure(b, 0, one(5)); s != api.Foul || len(now.Pieces) > 0 {
		t.Error(now, s)
	}
}

func TestP4_4Tape(t *testing.T) {
	tape := func(x api.Span, pieces ...int) api.MouldTape { return api.MouldTape{Pieces: pieces, Sum: x} }
	three := textM + strings.Repeat("tape 1 3\n", 2)
	for i, x := range []struct {
		text string
		tape api.MouldTape
		want string
		s    api.Snag
	}{
		{textM, tape(one(4), 0), textM + "tape 0 4\n", api.Clear},
		{textM, tape(to(0, 120), 0, 1, 2), textM + "tape 0+1+2 0..120\n", api.Clear},
		{piecesM, tape(one(3), 1), piecesM + "tape 1 3\n", api.Clear},
		{textM, tape(one(6), 0), "", api.Foul},
		{textM, tape(to(0, 9), 0, 1, 2), "", api.Foul},
		{textM, tape(one(4)), "", api.Many},
		{textM, tape(to(1, 0), 3), "", api.Absent},
		{textM, tape(to(1, 0), 1, -1), "", api.Absent},
		{textM, tape(to(1, 0), 1, 1), "", api.Turned},
		{textM, tape(to(1, 0), 1), "", api.Range},
		{textM, tape(to(0, 121), 1), "", api.Range},
		{textM, tape(to(-1, 7), 1), "", api.Range},
		{three, tape(one(3), 1), three + "tape 1 3\n", api.Clear},
		{three + "tape 1 3\n", tape(one(3), 1), "", api.Many},
		{three + "tape 1 3\n", tape(one(3), 7), "", api.Many}, // how many there are comes before each of them
		{textC, tape(one(3), 1), "", api.Foul},
	} {
		now, s := mould.Tape(parse(t, x.text), x.tape)
		if text, _ := mould.Print(now); text != x.want || s != x.s {
			t.Error(i, text, s)
		}
	}
}

func TestP4_4Boards(t *testing.T) {
	board := func(name string, long int, k ...api.Span) api.MouldBoard {
		return api.MouldBoard{Name: name, Long: long, Knots: k}
	}
	three := headM + "board ash 13 none\n"
	for i, x := range []struct {
		text string
		wood api.MouldBoard
		want string
		s    api.Snag
	}{
		{headM, board("ash", 13), three, api.Clear},
		{textM, board("ash", 13), three + "tape 0+2 7\n", api.Clear},
		{piecesM, board("keel", 40, to(0, 1), one(2), to(38, 39)), piecesM + "board keel 40 0..1+2+38..39\n", api.Clear},
		{textC, board("ash", 13), strings.Replace(textC, headM, three, 1), api.Clear}, // a book without boats
		{three, board("fir", 9), "", api.Many},
		{three, board("", 0), "", api.Many},
		{textM, board("", 13), "", api.Name},
		{textM, board("Ash", 13), "", api.Name},
		{textM, board("oak", 13), "", api.Again},
		{textM, board("elm", 0), "", api.Again},
		{textM, board("ash", 0), "", api.Range},
		{textM, board("ash", 41), "", api.Range},
		{textM, board("ash", 13, one(0), one(1), one(2), one(3)), "", api.Many},
		{textM, board("ash", 13, one(13)), "", api.Range},
		{textM, board("ash", 13, to(5, 4)), "", api.Range},
		{textM, board("ash", 13, to(5, 6), to(6, 7)), "", api.Turned},
	} {
		now, s := mould.Add(parse(t, x.text), x.wood)
		if text, _ := mould.Print(now); text != x.want || s != x.s {
			t.Error(i, text, s)
		}
	}
	for i, x := range []struct {
		text  string
		board int
		want  string
		s     api.Snag
	}{
		{textM, 0, piecesM + "board oak 6 none\ntape 0+2 7\n", api.Clear},
		{textM, 1, piecesM + "board elm 8 3\ntape 0+2 7\n", api.Clear},
		{three, 1, piecesM + "board elm 8 3\nboard ash 13 none\n", api.Clear},
		{piecesM + "board elm 8 3\n", 0, piecesM, api.Clear},
		{textC, 1, strings.Replace(textC, "board oak 6 none\n", "", 1), api.Clear},
		{textM, 2, "", api.Absent},
		{textM, -1, "", api.Absent},
		{textM, most, "", api.Absent},
		{piecesM, 0, "", api.Absent},
	} {
		now, s := mould.Lose(parse(t, x.text), x.board)
		if text, _ := mould.Print(now); text != x.want || s != x.s {
			t.Error(i, text, s)
		}
	}
}

func TestP4_4Everything(t *testing.T) {
	clashes, asked, snags := map[int]int{}, map[bool]int{}, map[api.Snag]int{}
	eachBook(t, 1200, func(t *testing.T, b api.MouldBook, o *oracle, r *rand.Rand) {
		list, _ := o.clash()
		clashes[len(list)]++
		if l, s := mould.Clash(b); !slices.Equal(l, list) || s != api.Clear {
			t.Error("Clash", l, s, list)
		}
		piece, left := o.ask()
		if len(o.boats) == 0 {
			piece, left = 0, 0
		}
		asked[left > 0 && piece >= 0]++
		if i, n, s := mould.Ask(b); i != piece || n != left || s != o.snag() {
			t.Error("Ask", i, n, s, piece, left)
		}
		piece = r.Intn(len(b.Pieces))
		length := b.Pieces[piece].Length
		x := to(max(length.Low+r.Intn(4)-1, 1), min(length.High+r.Intn(2), api.MaxMouldLong))
		both := to(max(x.Low, length.Low), min(x.High, length.High))
		measured := clone(b)
		measured.Pieces[piece].Length = both
		want := api.Clear
		switch {
		case x.Low > x.High:
			want = api.Range
		case both.Low > both.High || !hasBoat(measured):
			want = api.Foul
		}
		snags[want]++
		isNews(t, "Measure", want, measured)(mould.Measure(b, piece, x))
		if len(b.Tapes) < api.MaxMouldTapes {
			tape := tapeAbout(r, o.ways[r.Intn(len(o.ways))])
			taped := clone(b)
			taped.Tapes = append(taped.Tapes, tape)
			want := api.Clear
			if !hasBoat(taped) {
				want = api.Foul
			}
			isNews(t, "Tape", want, taped)(mould.Tape(b, tape))
		}
		if len(b.Boards) < api.MaxMouldBoards {
			w := randomBoard(r, "new", 9)
			more := clone(b)
			more.Boards = append(more.Boards, w)
			isNews(t, "Add", api.Clear, more)(mould.Add(b, w))
		}
		for board := range b.Boards {
			fewer := clone(b)
			fewer.Boards = slices.Delete(fewer.Boards, board, board+1)
			isNews(t, "Lose", api.Clear, fewer)(mould.Lose(b, board))
		}
	})
	if clashes[0] < 300 || clashes[1] < 30 || clashes[2] < 30 || asked[true] < 300 || asked[false] < 100 || snags[api.Foul] < 100 || snags[api.Clear] < 300 {
		t.Error("the books are too much alike", clashes, asked, snags)
	}
}

func hasBoat(b api.MouldBook) bool {
	return slices.ContainsFunc(waysOf(b), func(l []int) bool { return agrees(b, l) })
}

// isNews tests a new book and its snag.
func isNews(t *testing.T, what string, want api.Snag, book api.MouldBook) func(now api.MouldBook, s api.Snag) {
	return func(now api.MouldBook, s api.Snag) {
		t.Helper()
		if want != api.Clear {
			if s != want || !reflect.DeepEqual(now, api.MouldBook{}) {
				t.Error(what, now, s, want)
			}
			return
		}
		if s != want || printed(t, now) != printed(t, book) {
			t.Error(what, now, s, want)
		}
	}
}

// Each tape is right about some lengths of the spans, so that more of them clash together.
func TestP4_4ClashTogether(t *testing.T) {
	clashes := map[int]int{}
	eachBook(t, 2500, func(t *testing.T, b api.MouldBook, o *oracle, r *rand.Rand) {
		b.Tapes = nil
		for range api.MaxMouldTapes {
			b.Tapes = append(b.Tapes, tapeAbout(r, o.ways[r.Intn(len(o.ways))]))
		}
		b.Boards = nil
		list, _ := newOracle(b).clash()
		clashes[len(list)]++
		if l, s := mould.Clash(b); !slices.Equal(l, list) || s != api.Clear {
			t.Error(b, l, s, list)
		}
	})
	if clashes[0] < 100 || clashes[1] > 0 || clashes[2] < 100 || clashes[3] < 20 {
		t.Error("the books are too much alike", clashes)
	}
}

// What is taped or measured never adds a boat, and a cutting that surely does still does; see also TestP0_6KnowingMore.
func TestP4_10NothingIsAdded(t *testing.T) {
	tried := 0
	eachBook(t, 200, func(t *testing.T, b api.MouldBook, o *oracle, r *rand.Rand) {
		for _, now := range knowingMore(r, b) {
			tried++
			for _, l := range waysOf(now) {
				if is, _ := mould.IsBoat(now, l); is && !o.has(l) {
					t.Error(now, l)
				}
			}
			for _, x := range o.sure[:min(len(o.sure), 50)] {
				if sure, s := mould.Does(now, x); sure != api.Yes || s != api.Clear {
					t.Error(now, x, sure, s)
				}
			}
		}
	})
	if tried < 300 {
		t.Error("too few books", tried)
	}
}

// Tapes that clash do so alone, and no fewer do.
func TestP4_10Clash(t *testing.T) {
	tried := 0
	eachBook(t, 400, func(t *testing.T, b api.MouldBook, o *oracle, r *rand.Rand) {
		list, s := mould.Clash(b)
		if n, _ := mould.Boats(b); (n > 0) != (len(list) == 0) || s != api.Clear {
			t.Error(list, n, s)
		}
		if len(list) == 0 {
			return
		}
		tried++
		set := 0
		for _, i := range list {
			set |= 1 << i
		}
		alone, _ := only(b, set)
		if n, s := mould.Boats(alone); n > 0 || s != api.Clear {
			t.Error("they do not clash", list, n)
		}
		_, all := o.clash()
		for _, other := range all {
			if len(other) < len(list) {
				t.Error("fewer clash", list, other)
			}
		}
	})
	if tried < 80 {
		t.Error("too few clashes", tried)
	}
}

// Once the length that is asked for is known no more boats are left than is said, and no other length leaves fewer.
func TestP4_10Ask(t *testing.T) {
	eachBook(t, 300, func(t *testing.T, b api.MouldBook, o *oracle, r *rand.Rand) {
		piece, left, s := mould.Ask(b)
		if s != api.Clear {
			return
		}
		for i, p := range b.Pieces {
			worst := 0
			for n := p.Length.Low; n <= p.Length.High; n++ {
				if now, s := mould.Measure(b, i, one(n)); s == api.Clear {
					many, _ := mould.Boats(now)
					worst = max(worst, many)
				}
			}
			if worst < left || i == piece && worst != left || i < piece && worst == left {
				t.Error(piece, left, i, worst)
			}
		}
	})
}
