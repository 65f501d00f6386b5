package spile_test

import (
	"math/rand"
	"reflect"
	"slices"
	"strings"
	"testing"

	"ribband/api"
	"ribband/spile"
)

func TestP7_4Examples(t *testing.T) {
	b := parse(t, textP)
	if point, left, s := spile.Ask(b); point != 1 || left != 3 || s != api.Clear {
		t.Error(point, left, s)
	}
	now, s := spile.Check(b, check(2, one(6)))
	if n, _ := spile.Boats(now); n != 2 || s != api.Clear {
		t.Error(now, n, s)
	}
	if sure, _ := spile.Slipped(now); sure != api.No {
		t.Error(now, sure)
	}
	now, s = spile.Read(b, 1, one(6))
	if n, _ := spile.Boats(now); n != 3 || s != api.Clear {
		t.Error(now, n, s)
	}
	now, s = spile.Firm(b, 0)
	if n, _ := spile.Boats(now); n != 2 || s != api.Clear {
		t.Error(now, n, s)
	}
	if l, s := spile.Clash(parse(t, textC)); !slices.Equal(l, list(2)) || s != api.Clear {
		t.Error(l, s)
	}
}

func TestP7_4Clash(t *testing.T) {
	const two = "spile 9 3\npoint 4..6 9 0\npoint 4 9 0\npoint 4 9 0\n"
	for i, x := range []struct {
		text string
		want []int
	}{
		{textP, nil},
		{textF, nil},
		{textN, nil}, // whatever the board is
		{textC, list(2)},
		{textP + "check 0 5\ncheck 0 7\n", list(1)},             // of several lists the least one
		{textP + "check 2 6\ncheck 2 7\n", list(1, 2)},          // each of them may be right
		{textP + "check 1 4\ncheck 1 6\n", list(1, 2)},          // with the first one, both may be
		{textP + "check 2 5\n", list(0, 1)},                     // below what the first one says
		{textP + "check 2 5\ncheck 1 6\n", list(0, 1)},          // the last two clash, too
		{textP + "check 2 6..7\ncheck 1 3\n", list(0, 2)},       // one check twice
		{textP + "check 1 3\ncheck 0 5\n", list(2)},             // one is fewer than two
		{two + "check 0 5\ncheck 0 4\ncheck 1 9\n", list(2)},    // it does not slip so much
		{two + "check 0 5\ncheck 1 6\ncheck 2 7\n", list(1, 2)}, // it does not slip twice
		{two + "check 0 5\ncheck 1 6\ncheck 2 6\n", nil},
		{two + "check 0 5\ncheck 2 6\ncheck 0 3..4\n", list(0, 2)},
		{two + "check 1 4..5\ncheck 1 5..6\ncheck 1 4..6\n", nil},
		{textL + "check 1 3..4\ncheck 2 5\n", list(1, 2)},
		{"spile 9 1\npoint 4 9 0\npoint 4 9 0\ncheck 1 7\n", list(0)},
		{"spile 9 2\npoint 4 9 0\npoint 4 9 0\ncheck 1 7\n", nil},
		{"spile 9 0\npoint 4 9 0\npoint 3..4 9 0\ncheck 1 6\n", nil},
		{"spile 9 0\npoint 4 9 0\npoint 4 9 0\ncheck 1 -9..4\n", list(0)},
		{"spile 9 3\n" + strings.Repeat("point 4 9 0\n", 4) + "check 1 6..8\ncheck 2 5..6\ncheck 3 7..8\n", list(0, 1, 2)}, // only all together
		{"spile 9 3\n" + strings.Repeat("point 4 9 0\n", 4) + "check 1 5..8\ncheck 2 5..6\ncheck 3 7..8\n", nil},
	} {
		if l, s := spile.Clash(parse(t, x.text)); !slices.Equal(l, x.want) || s != api.Clear {
			t.Error(i, l, s)
		}
	}
}

func TestP7_4Ask(t *testing.T) {
	for i, x := range []struct {
		text        string
		point, left int
		s           api.Snag
	}{
		{textP, 1, 3, api.Clear},
		{textF, 1, 1, api.Clear},
		{textP + "check 2 7\n", 1, 2, api.Clear},
		{textP + "check 2 6\n", 1, 1, api.Clear},
		{textP + "check 1 4\n", 2, 1, api.Clear},
		{textP + "check 1 6\n", -1, 1, api.Clear},
		{textC, 0, 0, api.Foul},
		{textN, 1, 1, api.Clear},
		{textT, -1, 1, api.Clear},
		{textB, 1, 3, api.Clear},
		{textL, 2, 4, api.Clear},
		{textL + "check 2 3\n", 1, 1, api.Clear},
		{"spile 9 0\npoint 4 9 0\npoint 4 9 0\n", -1, 1, api.Clear},
		{"spile 9 0\npoint 4..5 9 0\npoint 4..5 9 0\n", 0, 2, api.Clear}, // the first one of several
		{"spile 9 0\npoint 4..5 9 0\npoint 4..6 9 0\n", 1, 2, api.Clear},
		{"spile 9 1\n" + strings.Repeat("point 4 9 0\n", 3) + "check 2 6\ncheck 1 5..6\n", 1, 1, api.Clear},
		{"spile 9 1\n" + strings.Repeat("point 4 9 0\n", 4) + "check 3 6\n", 1, 2, api.Clear}, // the slip was before 1, 2 or 3
	} {
		if point, left, s := spile.Ask(parse(t, x.text)); point != x.point || left != x.left || s != x.s {
			t.Error(i, point, left, s)
		}
	}
}

func TestP7_4Check(t *testing.T) {
	full := textF + strings.Repeat("check 0 6\n", api.MaxSpileChecks)
	for i, x := range []struct {
		text string
		c    api.SpileCheck
		want string
		s    api.Snag
	}{
		{textP, check(2, one(6)), textP + "check 2 6\n", api.Clear},
		{textP, check(1, to(4, 5)), textP + "check 1 4..5\n", api.Clear},
		{textP, check(0, to(-199, 199)), textP + "check 0 -199..199\n", api.Clear},
		{textP, check(2, to(6, 7)), textP + "check 2 6..7\n", api.Clear}, // once more
		{textB, check(1, to(-8, -7)), textB + "check 1 -8..-7\n", api.Clear},
		{textF + strings.Repeat("check 0 6\n", 2), check(0, one(6)), full, api.Clear},
		{textP, check(0, one(5)), "", api.Foul},
		{textP, check(2, one(5)), "", api.Foul},
		{textP, check(1, to(7, 199)), "", api.Foul},
		{textP + "check 2 7\n", check(1, one(3)), "", api.Foul},
		{textP + "check 2 9\n", check(0, one(6)), "", api.Foul}, // there was no boat before
		{textP, check(3, one(6)), "", api.Absent},
		{textP, check(-1, to(1, 0)), "", api.Absent},
		{textP, check(most, one(6)), "", api.Absent},
		{textP, check(least, one(6)), "", api.Absent},
		{textP, check(0, to(1, 0)), "", api.Range},
		{textP, check(0, to(-200, 6)), "", api.Range},
		{textP, check(0, to(6, 200)), "", api.Range},
		{textP, check(0, to(least, most)), "", api.Range},
		{textP + "check 2 9\n", check(0, to(6, 200)), "", api.Range},
		{full, check(0, one(6)), "", api.Many},
		{full, check(7, to(1, 0)), "", api.Many}, // how many there are comes before each of them
		{textC, check(0, one(6)), "", api.Many},
	} {
		now, s := spile.Check(parse(t, x.text), x.c)
		if text, _ := spile.Print(now); text != x.want || s != x.s {
			t.Error(i, text, s)
		}
	}
}

func TestP7_4Read(t *testing.T) {
	for i, x := range []struct {
		text  string
		point int
		x     api.Span
		want  string
		s     api.Snag
	}{
		{textP, 1, one(6), strings.Replace(textP, "5..6", "6", 1), api.Clear},
		{textP, 1, to(0, 5), strings.Replace(textP, "5..6", "5", 1), api.Clear},
		{textP, 1, to(6, 99), strings.Replace(textP, "5..6", "6", 1), api.Clear},
		{textP, 1, to(5, 6), textP, api.Clear},
		{textP, 1, to(0, 99), textP, api.Clear},
		{textP, 0, to(4, 9), textP, api.Clear},
		{textB, 1, to(8, 20), strings.Replace(textB, "7..9", "8..9", 1), api.Clear},
		{textP, 1, to(7, 99), "", api.Foul},
		{textP, 1, to(0, 4), "", api.Foul},
		{textP, 0, one(5), "", api.Foul},
		{textP + "check 1 6\n", 1, one(6), "", api.Foul}, // in common there is something, but no boat
		{textC, 1, to(0, 99), "", api.Foul},
		{textP, 1, to(0, 100), "", api.Range},
		{textP, 1, to(-1, 6), "", api.Range},
		{textP, 1, to(6, 5), "", api.Range},
		{textP, 1, to(most, least), "", api.Range},
		{textC, 1, to(least, most), "", api.Range},
		{textP, 3, one(6), "", api.Absent},
		{textP, 3, to(6, 5), "", api.Absent},
		{textP, -1, to(0, 100), "", api.Absent},
		{textC, least, one(6), "", api.Absent},
		{textP, most, one(6), "", api.Absent},
	} {
		now, s := spile.Read(parse(t, x.text), x.point, x.x)
		if text, _ := spile.Print(now); text != x.want || s != x.s {
			t.Error(i, text, s)
		}
	}
}

func TestP7_4Firm(t *testing.T) {
	for i, x := range []struct {
		text string
		slip int
		want string
		s    api.Snag
	}{
		{textP, 0, strings.Replace(textP, "10 1", "10 0", 1), api.Clear},
		{textP, 1, textP, api.Clear},
		{textP, 2, "", api.Range},
		{textP, -1, "", api.Range},
		{textP, most, "", api.Range},
		{textP, least, "", api.Range},
		{textP + "check 2 7\n", 0, "", api.Foul},
		{textP + "check 2 7\n", 1, textP + "check 2 7\n", api.Clear},
		{textF, 0, textF, api.Clear},
		{textF, 1, "", api.Range},
		{textT, 3, textT, api.Clear},
		{textT, 2, "", api.Foul},
		{textE, 2, strings.Replace(textE, "99 3", "99 2", 1), api.Clear},
		{textC, 1, "", api.Foul},
		{textC, 0, "", api.Foul},
		{textC, 2, "", api.Range},
	} {
		now, s := spile.Firm(parse(t, x.text), x.slip)
		if text, _ := spile.Print(now); text != x.want || s != x.s {
			t.Error(i, text, s)
		}
	}
}

func hasBoat(b api.SpileBook) api.Snag {
	if len(shipsOf(b)) == 0 {
		return api.Foul
	}
	return api.Clear
}

func TestP7_4Everything(t *testing.T) {
	clashes, asked, snags := map[int]int{}, map[bool]int{}, map[string]map[api.Snag]int{"Check": {}, "Read": {}, "Firm": {}}
	eachBook(t, 500, func(t *testing.T, b api.SpileBook, o *oracle, r *rand.Rand) {
		list := o.clash()
		clashes[len(list)]++
		if l, s := spile.Clash(b); !slices.Equal(l, list) || s != api.Clear {
			t.Error("Clash", l, s, list)
		}
		point, left := o.ask()
		if len(o.ships) == 0 {
			point, left = 0, 0
		}
		asked[left > 0 && point >= 0]++
		if k, n, s := spile.Ask(b); k != point || n != left || s != o.snag() {
			t.Error("Ask", k, n, s, point, left)
		}
		isNews := func(what string, book api.SpileBook, want api.Snag) func(now api.SpileBook, s api.Snag) {
			snags[what][want]++
			return func(now api.SpileBook, s api.Snag) {
				if s != want || want != api.Clear && !reflect.DeepEqual(now, api.SpileBook{}) || want == api.Clear && printed(t, now) != printed(t, book) {
					t.Error(what, now, s, book, want)
				}
			}
		}
		if len(b.Checks) < api.MaxSpileChecks {
			checked := clone(b)
			c := checkOf(r, gapsOf(b, randomMarks(r, b), randomSlip(r, b)))
			checked.Checks = append(checked.Checks, c)
			isNews("Check", checked, hasBoat(checked))(spile.Check(b, c))
		}
		point = r.Intn(len(b.Points))
		mark := b.Points[point].Mark
		x := to(max(mark.Low+r.Intn(4)-1, 0), min(mark.High+r.Intn(2), api.MaxSpileMark))
		read, want := clone(b), api.Range
		read.Points[point].Mark = to(max(x.Low, mark.Low), min(x.High, mark.High))
		if common := read.Points[point].Mark; x.Low <= x.High && common.Low > common.High {
			want = api.Foul
		} else if x.Low <= x.High {
			want = hasBoat(read)
		}
		isNews("Read", read, want)(spile.Read(b, point, x))
		for n := range b.Slip + 1 {
			firm := clone(b)
			firm.Slip = n
			isNews("Firm", firm, hasBoat(firm))(spile.Firm(b, n))
		}
	})
	if clashes[0] < 250 || clashes[1] < 40 || clashes[2] < 20 || asked[true] < 250 || asked[false] < 50 {
		t.Error("the books are too much alike", clashes, asked)
	}
	for _, seen := range snags {
		if seen[api.Clear] < 100 || seen[api.Foul] < 50 {
			t.Error("the books are too much alike", snags)
		}
	}
}

// Each check is right about some boat, so that more of them clash only together.
func TestP7_4ClashTogether(t *testing.T) {
	clashes := map[int]int{}
	eachBook(t, 600, func(t *testing.T, b api.SpileBook, o *oracle, r *rand.Rand) {
		b.Checks, b.Slip = nil, api.MaxSpileSlip
		for len(b.Points) < api.MaxSpilePoints {
			b.Points = append(b.Points, b.Points[0])
		}
		var marks []int
		for i, p := range b.Points {
			marks = append(marks, some(r, p.Mark))
			if r.Intn(4) > 0 {
				b.Points[i].Mark = one(marks[i])
			}
		}
		for i := range api.MaxSpileChecks {
			gap := gapsOf(b, marks, randomSlip(r, b))[i+1]
			b.Checks = append(b.Checks, check(i+1, to(gap-r.Intn(2), gap+r.Intn(2))))
		}
		o.book = b
		list := o.clash()
		clashes[len(list)]++
		if l, s := spile.Clash(b); !slices.Equal(l, list) || s != api.Clear {
			t.Error(b, l, s, list)
		}
	})
	if clashes[0] < 150 || clashes[1] > 0 || clashes[2] < 100 || clashes[3] < 2 {
		t.Error("the books are too much alike", clashes)
	}
}

// What is checked, read or made firm never adds a boat; see also TestP0_6KnowingMore.
func TestP7_9NothingIsAdded(t *testing.T) {
	tried := 0
	eachBook(t, 150, func(t *testing.T, b api.SpileBook, o *oracle, r *rand.Rand) {
		for _, now := range knowingMore(r, b) {
			for _, x := range shipsOf(now) {
				tried++
				if is, s := spile.IsBoat(b, x.marks, x.slip); !is || s != api.Clear {
					t.Error(now, x, is, s)
				}
			}
			for range 5 {
				marks, k := randomMarks(r, b), randomSlip(r, b)
				if is, _ := spile.IsBoat(now, marks, k); is && !isBoat(b, marks, k) {
					t.Error(now, marks, k)
				}
			}
		}
	})
	if tried < 1000 {
		t.Error("too few boats", tried)
	}
}

// Checks that clash do so alone, and no fewer do.
func TestP7_9Clash(t *testing.T) {
	tried := 0
	eachBook(t, 500, func(t *testing.T, b api.SpileBook, o *oracle, r *rand.Rand) {
		list, _ := spile.Clash(b)
		if n, s := spile.Boats(b); (n > 0) != (len(list) == 0) || s != api.Clear {
			t.Error(list, n, s)
		}
		if len(list) == 0 {
			return
		}
		tried++
		set := 0
		for _, i := range list {
			set |= 1 << i
		}
		alone, _ := only(b, set)
		if n, s := spile.Boats(alone); n > 0 || s != api.Clear {
			t.Error("they do not clash", list, n)
		}
		for set := range 1 << len(b.Checks) {
			fewer, some := only(b, set)
			if n, _ := spile.Boats(fewer); n == 0 && isLess(some, list) {
				t.Error("fewer clash", list, some)
			}
		}
	})
	if tried < 60 {
		t.Error("too few clashes", tried)
	}
}

// Once the gap that is asked for is known no more boats are left than is said, and no other gap leaves fewer.
func TestP7_9Ask(t *testing.T) {
	tried := 0
	eachBook(t, 400, func(t *testing.T, b api.SpileBook, o *oracle, r *rand.Rand) {
		point, left, s := spile.Ask(b)
		if s != api.Clear || len(b.Checks) == api.MaxSpileChecks {
			return
		}
		tried++
		for i := range b.Points {
			worst := 0
			gaps, _ := spile.Gap(b, i)
			for _, n := range gaps {
				now, s := spile.Check(b, check(i, one(n)))
				if s != api.Clear {
					t.Error(i, n, s)
				}
				many, _ := spile.Boats(now)
				worst = max(worst, many)
			}
			if worst < left || i == point && worst != left || i < point && worst == left {
				t.Error(point, left, i, worst)
			}
		}
		if n, _ := spile.Boats(b); (left == n) != (point < 0) {
			t.Error(point, left, n)
		}
	})
	if tried < 150 {
		t.Error("too few questions", tried)
	}
}
