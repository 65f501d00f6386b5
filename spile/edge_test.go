package spile_test

import (
	"math/rand"
	"reflect"
	"slices"
	"testing"

	"ribband/api"
	"ribband/spile"
)

func TestP7_1Examples(t *testing.T) {
	b := parse(t, textP)
	if l, s := spile.Gaps(b, list(4, 5, 4), none()); !slices.Equal(l, list(6, 5, 6)) || s != api.Clear {
		t.Error(l, s)
	}
	if l, s := spile.Gaps(b, list(4, 6, 4), slip(2, 1)); !slices.Equal(l, list(6, 4, 7)) || s != api.Clear {
		t.Error(l, s)
	}
	if x, found, s := spile.Shifts(b, list(6, 5, 6)); x != to(-4, 0) || !found || s != api.Clear {
		t.Error(x, found, s)
	}
	if point, left, s := spile.Room(b); point != 2 || left != 6 || s != api.Clear {
		t.Error(point, left, s)
	}
	if x, found, s := spile.Shifts(b, list(6, 4, 7)); x != to(-3, -1) || !found || s != api.Clear {
		t.Error(x, found, s)
	}
}

func TestP7_1CheckBook(t *testing.T) {
	mark := func(x api.Span) func(b *api.SpileBook) {
		return func(b *api.SpileBook) { b.Points[1].Mark = x }
	}
	board := func(x api.Span) func(b *api.SpileBook) {
		return func(b *api.SpileBook) { b.Points[1].Board = x }
	}
	width := func(n int) func(b *api.SpileBook) {
		return func(b *api.SpileBook) { b.Points[1].Width = n }
	}
	checks := func(list ...api.SpileCheck) func(b *api.SpileBook) {
		return func(b *api.SpileBook) { b.Checks = list }
	}
	for i, x := range []struct {
		change func(b *api.SpileBook)
		want   api.Snag
	}{
		{func(b *api.SpileBook) {}, api.Clear},
		{func(b *api.SpileBook) { b.Opening = -1 }, api.Range},
		{func(b *api.SpileBook) { b.Opening = 0 }, api.Clear},
		{func(b *api.SpileBook) { b.Opening = 99 }, api.Clear},
		{func(b *api.SpileBook) { b.Opening = 100 }, api.Range},
		{func(b *api.SpileBook) { b.Opening = least }, api.Range},
		{func(b *api.SpileBook) { b.Opening = most }, api.Range},
		{func(b *api.SpileBook) { b.Slip = -1 }, api.Range},
		{func(b *api.SpileBook) { b.Slip = 0 }, api.Clear},
		{func(b *api.SpileBook) { b.Slip = 3 }, api.Clear},
		{func(b *api.SpileBook) { b.Slip = 4 }, api.Range},
		{func(b *api.SpileBook) { b.Slip = most }, api.Range},
		{func(b *api.SpileBook) { b.Points, b.Checks = nil, nil }, api.Many},
		{func(b *api.SpileBook) { b.Points, b.Checks = b.Points[:1], nil }, api.Many},
		{func(b *api.SpileBook) { b.Points, b.Checks = b.Points[:2], nil }, api.Clear},
		{func(b *api.SpileBook) { b.Points = b.Points[:2] }, api.Absent},
		{func(b *api.SpileBook) { b.Points = make([]api.SpilePoint, 4) }, api.Clear},
		{func(b *api.SpileBook) { b.Points = make([]api.SpilePoint, 5) }, api.Many},
		{mark(to(0, 2)), api.Clear},
		{mark(to(0, 3)), api.Range},
		{mark(to(97, 99)), api.Clear},
		{mark(to(98, 100)), api.Range},
		{mark(one(100)), api.Range},
		{mark(to(-1, 0)), api.Range},
		{mark(to(6, 5)), api.Range},
		{mark(to(least, most)), api.Range},
		{mark(to(most, least)), api.Range},
		{board(to(0, 199)), api.Clear},
		{board(one(0)), api.Clear}, // even if it is too narrow
		{board(one(199)), api.Clear},
		{board(to(0, 200)), api.Range},
		{board(to(-1, 9)), api.Range},
		{board(to(9, 8)), api.Range},
		{board(to(least, most)), api.Range},
		{board(to(most, least)), api.Range},
		{width(0), api.Clear},
		{width(199), api.Clear},
		{width(200), api.Range},
		{width(-1), api.Range},
		{width(least), api.Range},
		{width(most), api.Range},
		{checks(), api.Clear},
		{checks(check(0, to(-199, 199)), check(1, one(-199)), check(2, one(199))), api.Clear},
		{checks(make([]api.SpileCheck, 3)...), api.Clear},
		{checks(make([]api.SpileCheck, 4)...), api.Many},
		{checks(check(-1, one(6))), api.Absent},
		{checks(check(3, one(6))), api.Absent},
		{checks(check(least, one(6))), api.Absent},
		{checks(check(most, to(1, 0))), api.Absent}, // its point comes before its gap
		{checks(check(0, to(-200, 0))), api.Range},
		{checks(check(0, to(0, 200))), api.Range},
		{checks(check(0, to(1, 0))), api.Range},
		{checks(check(0, to(least, most))), api.Range},
		{checks(check(0, one(6)), check(0, to(1, 0)), check(3, one(6))), api.Range}, // the first check that is wrong decides
		{checks(check(0, one(6)), check(3, one(6)), check(0, to(1, 0))), api.Absent},
	} {
		b := parse(t, textP)
		x.change(&b)
		if s := spile.CheckBook(b); s != x.want {
			t.Error(i, s)
		}
	}
}

// Snags of a book come in the order of the chapter.
func TestP7_1CheckBookOrder(t *testing.T) {
	b := parse(t, textP)
	b.Opening, b.Slip = 10, 4
	b.Points = append(b.Points, api.SpilePoint{}, api.SpilePoint{})
	b.Points[0].Width = 200
	b.Checks = []api.SpileCheck{check(4, to(1, 0)), check(4, one(6)), check(0, to(1, 0)), {}}
	for i, x := range []struct {
		mend func()
		want api.Snag
	}{
		{func() {}, api.Range},
		{func() { b.Slip = 1 }, api.Many},
		{func() { b.Points = b.Points[:1] }, api.Many},
		{func() { b.Points = b.Points[:4] }, api.Range},
		{func() { b.Points[0].Width = 4 }, api.Many},
		{func() { b.Checks = b.Checks[:3] }, api.Absent},
		{func() { b.Checks[0].Point = 3 }, api.Range},
		{func() { b.Checks[0].Gap = one(1) }, api.Absent},
		{func() { b.Checks[1].Point = 3 }, api.Range},
		{func() { b.Checks = b.Checks[:2] }, api.Clear},
	} {
		x.mend()
		if s := spile.CheckBook(b); s != x.want {
			t.Error(i, s)
		}
	}
}

// Snags of marks come before those of a slip.
func TestP7_1BoatSnags(t *testing.T) {
	for i, x := range []struct {
		text  string
		marks []int
		k     api.SpileSlip
		want  api.Snag
	}{
		{textP, list(0, 99, 4), none(), api.Clear},
		{textP, list(4, 5, 4), slip(1, 1), api.Clear},
		{textP, list(4, 5, 4), slip(2, -1), api.Clear},
		{textP, nil, none(), api.Many},
		{textP, list(4, 5), none(), api.Many},
		{textP, list(4, 5, 4, 4), slip(9, 9), api.Many},
		{textP, list(4, 100), slip(9, 9), api.Many},
		{textP, list(4, 5, 100), slip(9, 9), api.Range},
		{textP, list(-1, 5, 4), none(), api.Range},
		{textP, list(least, 5, 4), none(), api.Range},
		{textP, list(4, 5, most), none(), api.Range},
		{textP, list(4, 5, 4), slip(0, 1), api.Absent},
		{textP, list(4, 5, 4), slip(0, -1), api.Absent},
		{textP, list(4, 5, 4), slip(1, 0), api.Absent},
		{textP, list(4, 5, 4), slip(3, 1), api.Absent},
		{textP, list(4, 5, 4), slip(-1, 1), api.Absent},
		{textP, list(4, 5, 4), slip(-1, 0), api.Absent},
		{textP, list(4, 5, 4), slip(1, 2), api.Absent},
		{textP, list(4, 5, 4), slip(1, -2), api.Absent},
		{textP, list(4, 5, 4), slip(least, most), api.Absent},
		{textP, list(4, 5, 4), slip(most, least), api.Absent},
		{textF, list(4, 5, 4), none(), api.Clear},
		{textF, list(4, 5, 4), slip(1, 1), api.Absent},
		{textB, list(9, 7), slip(1, 2), api.Clear},
		{textB, list(9, 7), slip(1, -2), api.Clear},
		{textB, list(9, 7), slip(1, 3), api.Absent},
		{textB, list(9, 7), slip(2, 1), api.Absent},
		{textL, list(0, 0, 0, 0), slip(3, 2), api.Clear},
		{textL, list(0, 0, 0, 0), slip(4, 2), api.Absent},
	} {
		b := parse(t, x.text)
		if l, s := spile.Gaps(b, x.marks, x.k); s != x.want || s != api.Clear && len(l) > 0 {
			t.Error(i, "Gaps", l, s)
		}
		if is, s := spile.IsBoat(b, x.marks, x.k); s != x.want || s != api.Clear && is {
			t.Error(i, "IsBoat", is, s)
		}
	}
}

func TestP7_1Gaps(t *testing.T) {
	for i, x := range []struct {
		text  string
		marks []int
		k     api.SpileSlip
		want  []int
	}{
		{textP, list(4, 6, 4), none(), list(6, 4, 6)},
		{textP, list(4, 6, 4), slip(1, 1), list(6, 5, 7)},
		{textP, list(4, 6, 4), slip(1, -1), list(6, 3, 5)},
		{textP, list(4, 6, 4), slip(2, -1), list(6, 4, 5)},
		{textP, list(0, 99, 10), none(), list(10, -89, 0)}, // marks that no boat has
		{textP, list(0, 99, 10), slip(2, 1), list(10, -89, 1)},
		{textC, list(4, 5, 4), none(), list(6, 5, 6)}, // there is no boat
		{textB, list(9, 8), slip(1, 2), list(-6, -3)},
		{textB, list(9, 8), slip(1, -2), list(-6, -7)},
		{textL, list(4, 4, 4, 4), slip(1, 2), list(5, 7, 7, 7)},
		{textL, list(4, 4, 4, 4), slip(2, 2), list(5, 5, 7, 7)},
		{textL, list(4, 4, 4, 4), slip(3, 2), list(5, 5, 5, 7)},
		{textE, list(0, 99, 0, 99), slip(1, 3), list(99, 3, 102, 3)},
		{"spile 0 3\npoint 0 0 0\npoint 99 0 0\n", list(99, 99), slip(1, -3), list(-99, -102)},
	} {
		if l, s := spile.Gaps(parse(t, x.text), x.marks, x.k); !slices.Equal(l, x.want) || s != api.Clear {
			t.Error(i, l, s)
		}
	}
}

func TestP7_1IsBoat(t *testing.T) {
	for i, x := range []struct {
		text  string
		marks []int
		k     api.SpileSlip
		want  bool
	}{
		{textP, list(4, 5, 4), none(), true},
		{textP, list(4, 6, 4), none(), true},
		{textP, list(4, 7, 4), none(), false},
		{textP, list(4, 4, 4), none(), false},
		{textP, list(3, 5, 4), none(), false},
		{textP, list(4, 5, 5), slip(2, 1), false},
		{textP, list(4, 5, 4), slip(1, 1), true},
		{textP, list(4, 5, 4), slip(2, 1), true},
		{textP, list(4, 5, 4), slip(1, -1), false}, // a check is wrong
		{textP, list(4, 5, 4), slip(2, -1), false},
		{textP + "check 1 6\n", list(4, 5, 4), slip(1, 1), true},
		{textP + "check 1 6\n", list(4, 5, 4), slip(2, 1), false},
		{textP + "check 1 6\n", list(4, 6, 4), slip(1, 1), false},
		{textP + "check 2 7\ncheck 1 4\n", list(4, 6, 4), slip(2, 1), true},
		{textP + "check 2 7\ncheck 1 4\n", list(4, 6, 4), none(), false}, // all checks must be right
		{textP + "check 2 7\ncheck 1 4\n", list(4, 5, 4), slip(2, 1), false},
		{textC, list(4, 5, 4), none(), false},
		{textN, list(3, 2), none(), true}, // whatever the board is
		{textT, list(4, 5), slip(1, -3), true},
		{textT, list(4, 5), slip(1, -2), false},
		{textT, list(4, 5), none(), false},
	} {
		if is, s := spile.IsBoat(parse(t, x.text), x.marks, x.k); is != x.want || s != api.Clear {
			t.Error(i, is, s)
		}
	}
}

func TestP7_1GapsHandedIn(t *testing.T) {
	for i, x := range []struct {
		text string
		gaps []int
		want api.Snag
	}{
		{textP, list(-199, 0, 199), api.Clear},
		{textP, nil, api.Many},
		{textP, list(6, 5), api.Many},
		{textP, list(6, 5, 6, 6), api.Many},
		{textP, list(6, 200), api.Many},
		{textP, list(6, 5, 200), api.Range},
		{textP, list(-200, 5, 6), api.Range},
		{textP, list(6, most, 6), api.Range},
		{textC, list(6, least, 6), api.Range},
		{textC, list(6, 5, 6), api.Clear},
	} {
		if y, found, s := spile.Shifts(parse(t, x.text), x.gaps); s != x.want || s != api.Clear && (found || y != one(0)) {
			t.Error(i, y, found, s)
		}
	}
}

func TestP7_1Shifts(t *testing.T) {
	for i, x := range []struct {
		text  string
		gaps  []int
		want  api.Span
		found bool
	}{
		{textP, list(6, 20, 6), one(0), false},
		{textP, list(0, 0, 0), to(1, 6), true},
		{textP, list(0, 1, 0), to(0, 6), true},
		{textP, list(0, 0, 6), one(0), false}, // by 1 to 0: nothing
		{textP, list(0, 0, 5), one(1), true},  // just one number
		{textP, list(-4, 0, 0), to(4, 6), true},
		{textP, list(-199, -199, -199), to(200, 205), true},
		{textP, list(199, 199, 199), to(-198, -193), true},
		{textN, list(5, 5), one(0), false}, // the board is too narrow, whatever the gaps are
		{textN, list(0, 0), one(0), false},
		{textC, list(6, 5, 6), to(-4, 0), true}, // whether there is a boat makes no difference
		{textS, list(1, 1), one(0), false},
		{textS, list(1, 10), one(-1), true},
		{textS, list(1, 11), one(-1), true},
		{textS, list(1, 12), one(0), false},
		{textS, list(1, 9), one(0), false},
		{textO, list(5, 4), one(-1), true},
		{textO, list(5, 3), one(0), false},
		{textO, list(5, 7), to(-4, -3), true},
		{textE, list(199, 0, 0, 99), one(0), true},
		{textE, list(0, -199, -199, 0), one(199), true},
		{textE, list(0, -199, -199, 1), one(0), false}, // it would be shifted too far
		{textE, list(0, -199, -199, -199), one(199), true},
	} {
		if y, found, s := spile.Shifts(parse(t, x.text), x.gaps); y != x.want || found != x.found || s != api.Clear {
			t.Error(i, y, found, s)
		}
	}
}

func TestP7_1Room(t *testing.T) {
	for text, want := range map[string][2]int{
		textP: {2, 6},
		textC: {2, 6},
		textN: {1, -1},
		textO: {1, 1},
		textS: {0, 0},
		textB: {0, 17}, // the first one of several
		textL: {0, 19},
		textE: {0, 0},
		"spile 0 0\npoint 0 5..9 9\npoint 0 0 5\npoint 0 7..8 6\npoint 0 9 3\n": {0, -5},
		"spile 0 0\npoint 0 0..9 9\npoint 0 0 199\n":                            {1, -199},
		"spile 0 0\npoint 0 0..199 0\npoint 0 1..199 0\n":                       {1, 198},
	} {
		if point, left, s := spile.Room(parse(t, text)); point != want[0] || left != want[1] || s != api.Clear {
			t.Error(text, point, left, s)
		}
	}
}

func TestP7_1Everything(t *testing.T) {
	is, lies := map[bool]int{}, map[bool]int{}
	eachBook(t, 400, func(t *testing.T, b api.SpileBook, o *oracle, r *rand.Rand) {
		if point, left, s := spile.Room(b); s != api.Clear {
			t.Error("Room", s)
		} else if p, n := room(b); point != p || left != n {
			t.Error("Room", point, left, p, n)
		}
		for range 8 {
			marks, k := randomMarks(r, b), randomSlip(r, b)
			gaps := gapsOf(b, marks, k)
			if l, s := spile.Gaps(b, marks, k); !slices.Equal(l, gaps) || s != api.Clear {
				t.Error("Gaps", marks, k, l, s)
			}
			want := isBoat(b, marks, k)
			is[want]++
			if got, s := spile.IsBoat(b, marks, k); got != want || s != api.Clear {
				t.Error("IsBoat", marks, k, got, s)
			}
			var span api.Span
			all := lieAll(b, gaps)
			lies[len(all) > 0]++
			if len(all) > 0 {
				span = to(all[0], all[len(all)-1])
			}
			if x, found, s := spile.Shifts(b, gaps); x != span || found != (len(all) > 0) || s != api.Clear {
				t.Error("Shifts", gaps, x, found, s, span)
			}
		}
	})
	if is[true] < 600 || is[false] < 600 || lies[true] < 600 || lies[false] < 600 {
		t.Error("the books are too much alike", is, lies)
	}
}

// Gaps lie on the board just if they are shifted by a number of Shifts.
func TestP7_8JustShifts(t *testing.T) {
	tried := 0
	eachBook(t, 200, func(t *testing.T, b api.SpileBook, o *oracle, r *rand.Rand) {
		gaps := gapsOf(b, randomMarks(r, b), randomSlip(r, b))
		x, found, s := spile.Shifts(b, gaps)
		if s != api.Clear {
			t.Fatal(s)
		}
		for n := farDown; n <= farUp; n++ {
			if is := found && isIn(x, n); is != lie(b, gaps, n) {
				t.Error(gaps, n, x, found)
			}
			if found {
				tried++
			}
		}
	})
	if tried < 50000 {
		t.Error("too few shifts", tried)
	}
}

// Gaps that are all greater by the same are shifted by as much less.
func TestP7_8GreaterGaps(t *testing.T) {
	tried := 0
	eachBook(t, 300, func(t *testing.T, b api.SpileBook, o *oracle, r *rand.Rand) {
		gaps, by := gapsOf(b, randomMarks(r, b), randomSlip(r, b)), r.Intn(60)-30
		greater := slices.Clone(gaps)
		for i := range greater {
			greater[i] += by
		}
		x, found, _ := spile.Shifts(b, gaps)
		y, too, s := spile.Shifts(b, greater)
		if found != too || found && y != to(x.Low-by, x.High-by) || s != api.Clear {
			t.Error(gaps, by, x, found, y, too, s)
		}
		if found {
			tried++
		}
	})
	if tried < 100 {
		t.Error("too few gaps", tried)
	}
}

// A board that is broader lets no fewer numbers do.
func TestP7_8BroaderBoard(t *testing.T) {
	more := 0
	eachBook(t, 300, func(t *testing.T, b api.SpileBook, o *oracle, r *rand.Rand) {
		broad, point := clone(b), r.Intn(len(b.Points))
		p := &broad.Points[point]
		p.Board = to(max(p.Board.Low-r.Intn(3), 0), min(p.Board.High+r.Intn(3), api.MaxSpileBoard))
		gaps := gapsOf(b, randomMarks(r, b), randomSlip(r, b))
		x, found, _ := spile.Shifts(b, gaps)
		y, too, s := spile.Shifts(broad, gaps)
		if found && (!too || y.Low > x.Low || y.High < x.High) || s != api.Clear {
			t.Error(broad, gaps, x, found, y, too, s)
		}
		if too != found || y != x {
			more++
		}
		_, left, _ := spile.Room(b)
		if _, now, _ := spile.Room(broad); now < left {
			t.Error("Room", broad, left, now)
		}
		_, boats, s := spile.Most(b)
		if _, now, t2 := spile.Most(broad); now < boats || s != t2 {
			t.Error("Most", broad, boats, now, s, t2)
		}
		shift, sure, _ := spile.Surely(b)
		if now, still, _ := spile.Surely(broad); sure && (!still || now > shift) {
			t.Error("Surely", broad, shift, now, still)
		}
		if was, _ := spile.Had(b); was == api.Yes {
			if now, _ := spile.Had(broad); now != api.Yes {
				t.Error("Had", broad, now)
			}
		}
	})
	if more < 30 {
		t.Error("too few boards", more)
	}
}

// A compass that is opened wider, with marks that are greater by as much, has the same gaps.
func TestP7_10Opening(t *testing.T) {
	tried := 0
	eachBook(t, 300, func(t *testing.T, b api.SpileBook, o *oracle, r *rand.Rand) {
		marks, k := randomMarks(r, b), randomSlip(r, b)
		by := api.MaxSpileOpening - b.Opening
		for i, p := range b.Points {
			by = min(by, api.MaxSpileMark-p.Mark.High, api.MaxSpileMark-marks[i])
		}
		if by < 1 {
			return
		}
		tried++
		by = 1 + r.Intn(by)
		wide := clone(b)
		wide.Opening += by
		for i := range marks {
			wide.Points[i].Mark = to(b.Points[i].Mark.Low+by, b.Points[i].Mark.High+by)
		}
		greater := slices.Clone(marks)
		for i := range greater {
			greater[i] += by
		}
		gaps, _ := spile.Gaps(b, marks, k)
		if l, s := spile.Gaps(wide, greater, k); !slices.Equal(l, gaps) || s != api.Clear {
			t.Error("Gaps", wide, greater, k, gaps, l, s)
		}
		is, _ := spile.IsBoat(b, marks, k)
		if too, s := spile.IsBoat(wide, greater, k); too != is || s != api.Clear {
			t.Error("IsBoat", wide, greater, k, is, too, s)
		}
		for point := range b.Points {
			before, was := spile.Gap(b, point)
			if l, s := spile.Gap(wide, point); !slices.Equal(l, before) || s != was {
				t.Error("Gap", wide, point, before, l, s)
			}
		}
		for _, c := range []struct{ was, is []any }{
			{row(spile.Boats(b)), row(spile.Boats(wide))},
			{row(spile.Slipped(b)), row(spile.Slipped(wide))},
			{row(spile.Slips(b)), row(spile.Slips(wide))},
			{row(spile.Had(b)), row(spile.Had(wide))},
			{row(spile.Surely(b)), row(spile.Surely(wide))},
			{row(spile.Most(b)), row(spile.Most(wide))},
			{row(spile.Ask(b)), row(spile.Ask(wide))},
		} {
			if !reflect.DeepEqual(c.was, c.is) {
				t.Error(wide, c.was, c.is)
			}
		}
	})
	if tried < 200 {
		t.Error("too few books", tried)
	}
}
