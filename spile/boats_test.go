package spile_test

import (
	"math/rand"
	"slices"
	"testing"

	"ribband/api"
	"ribband/spile"
)

func TestP7_2Examples(t *testing.T) {
	b := parse(t, textP)
	if n, s := spile.Boats(b); n != 6 || s != api.Clear {
		t.Error(n, s)
	}
	if sure, s := spile.Slipped(b); sure != api.Open || s != api.Clear {
		t.Error(sure, s)
	}
	if l, s := spile.When(b); !slices.Equal(l, list(1, 2)) || s != api.Clear {
		t.Error(l, s)
	}
	if l, s := spile.Slips(b); !slices.Equal(l, []api.SpileSlip{slip(1, 1), slip(2, 1)}) || s != api.Clear {
		t.Error(l, s)
	}
	if l, s := spile.Gap(b, 1); !slices.Equal(l, list(4, 5, 6)) || s != api.Clear {
		t.Error(l, s)
	}
	if l, s := spile.Gap(b, 2); !slices.Equal(l, list(6, 7)) || s != api.Clear {
		t.Error(l, s)
	}
}

// told is what is told of the boats of a book.
type told struct {
	boats   int
	slipped api.Sure
	when    []int
	slips   []api.SpileSlip
	gaps    [][]int // of each point
	s       api.Snag
}

func isTold(t *testing.T, b api.SpileBook, want told) {
	t.Helper()
	if n, s := spile.Boats(b); n != want.boats || s != api.Clear {
		t.Error("Boats", n, s, want.boats)
	}
	if sure, s := spile.Slipped(b); sure != want.slipped || s != want.s {
		t.Error("Slipped", sure, s, want.slipped)
	}
	if l, s := spile.When(b); !slices.Equal(l, want.when) || s != want.s {
		t.Error("When", l, s, want.when)
	}
	if l, s := spile.Slips(b); !slices.Equal(l, want.slips) || s != want.s {
		t.Error("Slips", l, s, want.slips)
	}
	for point, gaps := range want.gaps {
		if l, s := spile.Gap(b, point); !slices.Equal(l, gaps) || s != want.s {
			t.Error("Gap", point, l, s, gaps)
		}
	}
}

// Checks leave fewer boats, or none.
func TestP7_2Known(t *testing.T) {
	slips := func(list ...api.SpileSlip) []api.SpileSlip { return list }
	gaps := func(lists ...[]int) [][]int { return lists }
	for _, x := range []struct {
		text string
		want told
	}{
		{textP, told{6, api.Open, list(1, 2), slips(slip(1, 1), slip(2, 1)), gaps(list(6), list(4, 5, 6), list(6, 7)), api.Clear}},
		{textF, told{2, api.No, nil, nil, gaps(list(6), list(4, 5), list(6)), api.Clear}},
		{"spile 10 1\n" + points, told{10, api.Open, list(1, 2), slips(slip(1, -1), slip(1, 1), slip(2, -1), slip(2, 1)), gaps(list(6), list(3, 4, 5, 6), list(5, 6, 7)), api.Clear}},
		{textP + "check 2 7\n", told{4, api.Yes, list(1, 2), slips(slip(1, 1), slip(2, 1)), gaps(list(6), list(4, 5, 6), list(7)), api.Clear}},
		{textP + "check 2 6\n", told{2, api.No, nil, nil, gaps(list(6), list(4, 5), list(6)), api.Clear}},
		{textP + "check 1 4\n", told{2, api.Open, list(2), slips(slip(2, 1)), gaps(list(6), list(4), list(6, 7)), api.Clear}},
		{textP + "check 1 6\n", told{1, api.Yes, list(1), slips(slip(1, 1)), gaps(list(6), list(6), list(7)), api.Clear}},
		{textP + "check 0 -199..199\n", told{6, api.Open, list(1, 2), slips(slip(1, 1), slip(2, 1)), gaps(list(6), list(4, 5, 6), list(6, 7)), api.Clear}},
		{textP + "check 2 7\ncheck 1 4\n", told{1, api.Yes, list(2), slips(slip(2, 1)), gaps(list(6), list(4), list(7)), api.Clear}},
		{textC, told{0, api.Open, nil, nil, gaps(nil, nil, nil), api.Foul}},
		{textP + "check 2 9\n", told{0, api.Open, nil, nil, gaps(nil, nil, nil), api.Foul}},
		{textN, told{2, api.No, nil, nil, gaps(list(5), list(5, 6)), api.Clear}},
		{textB, told{15, api.Open, list(1), slips(slip(1, -2), slip(1, -1), slip(1, 1), slip(1, 2)), gaps(list(-6), list(-8, -7, -6, -5, -4, -3, -2)), api.Clear}},
		{textB + "check 1 -199..-7\n", told{3, api.Yes, list(1), slips(slip(1, -2), slip(1, -1)), gaps(list(-6), list(-8, -7)), api.Clear}},
		{textT, told{1, api.Yes, list(1), slips(slip(1, -3)), gaps(list(5), list(1)), api.Clear}},
		{textL, told{8, api.Open, list(1, 2, 3), slips(slip(1, -1), slip(2, -1), slip(3, -1)), gaps(list(5), list(4, 5), list(3, 4, 5), list(4, 5)), api.Clear}},
		{textL + "check 2 3\n", told{2, api.Yes, list(1, 2), slips(slip(1, -1), slip(2, -1)), gaps(list(5), list(4, 5), list(3), list(4)), api.Clear}},
		{"spile 9 1\npoint 4..5 9 0\npoint 3 9 0\n", told{6, api.Open, list(1), slips(slip(1, -1), slip(1, 1)), gaps(list(4, 5), list(5, 6, 7)), api.Clear}}, // the first point knows of no slip
	} {
		isTold(t, parse(t, x.text), x.want)
	}
}

func TestP7_2Absent(t *testing.T) {
	for _, text := range []string{textP, textC} {
		b := parse(t, text)
		for _, point := range []int{-1, 3, most, least} {
			if l, s := spile.Gap(b, point); len(l) > 0 || s != api.Absent {
				t.Error(text, point, l, s)
			}
		}
	}
}

func TestP7_2Everything(t *testing.T) {
	snags, sures := map[api.Snag]int{}, map[api.Sure]int{}
	eachBook(t, 800, func(t *testing.T, b api.SpileBook, o *oracle, r *rand.Rand) {
		want := told{boats: len(o.ships), slipped: o.slipped(), when: o.when(), slips: o.slips(), s: o.snag()}
		for point := range b.Points {
			want.gaps = append(want.gaps, o.gap(point))
		}
		isTold(t, b, want)
		snags[want.s]++
		sures[want.slipped]++
	})
	if snags[api.Foul] < 80 || snags[api.Clear] < 500 || sures[api.Yes] < 30 || sures[api.Open] < 200 || sures[api.No] < 150 {
		t.Error("the books are too much alike", snags, sures)
	}
}

// A book of the greatest size: 19 slips, or none, and 81 marks.
func TestGreatestBook(t *testing.T) {
	b := api.SpileBook{Opening: 99, Slip: 3}
	for range api.MaxSpilePoints {
		b.Points = append(b.Points, api.SpilePoint{Mark: to(10, 12), Board: to(0, 199), Width: 50})
	}
	for range api.MaxSpileChecks {
		b.Checks = append(b.Checks, check(0, to(-199, 199)))
	}
	if n, s := spile.Boats(b); n != 19*81 || s != api.Clear {
		t.Error(n, s)
	}
	if l, s := spile.Slips(b); len(l) != 18 || s != api.Clear {
		t.Error(l, s)
	}
	if l, s := spile.Gap(b, 3); !slices.Equal(l, list(84, 85, 86, 87, 88, 89, 90, 91, 92)) || s != api.Clear {
		t.Error(l, s)
	}
	if sure, s := spile.Had(b); sure != api.Yes || s != api.Clear {
		t.Error(sure, s)
	}
	if n, found, s := spile.Surely(b); n != -84 || !found || s != api.Clear {
		t.Error(n, found, s)
	}
	if n, many, s := spile.Most(b); n != -84 || many != 19*81 || s != api.Clear {
		t.Error(n, many, s)
	}
	if point, left, s := spile.Ask(b); point != 3 || left != 27*9 || s != api.Clear {
		t.Error(point, left, s)
	}
}

// Whatever the marks really are, and whether the compass slipped or not, if the checks are right, it is a boat, and all that is told is so.
func TestP7_6WhateverItIs(t *testing.T) {
	tried := 0
	eachBook(t, 250, func(t *testing.T, b api.SpileBook, o *oracle, r *rand.Rand) {
		for range 3 {
			x := clone(b)
			x.Checks = nil
			var marks []int
			for _, p := range b.Points {
				marks = append(marks, some(r, p.Mark))
			}
			k := randomSlip(r, b)
			for range r.Intn(api.MaxSpileChecks + 1) {
				x.Checks = append(x.Checks, checkOf(r, gapsOf(b, marks, k)))
			}
			tried++
			tellsRight(t, x, marks, k)
		}
	})
	if tried < 700 {
		t.Error("too few boats", tried)
	}
}

// tellsRight tests that all that a book tells is so of marks and a slip that are one of its boats.
func tellsRight(t *testing.T, b api.SpileBook, marks []int, k api.SpileSlip) {
	t.Helper()
	if is, s := spile.IsBoat(b, marks, k); !is || s != api.Clear {
		t.Error("IsBoat", b, marks, k, is, s)
	}
	if n, s := spile.Boats(b); n < 1 || s != api.Clear {
		t.Error("Boats", b, n, s)
	}
	if sure, s := spile.Slipped(b); sure == api.Yes && k == none() || sure == api.No && k != none() || s != api.Clear {
		t.Error("Slipped", b, k, sure, s)
	}
	if l, s := spile.When(b); k != none() && !slices.Contains(l, k.Before) || s != api.Clear {
		t.Error("When", b, k, l, s)
	}
	if l, s := spile.Slips(b); k != none() && !slices.Contains(l, k) || slices.Contains(l, none()) || s != api.Clear {
		t.Error("Slips", b, k, l, s)
	}
	gaps := gapsOf(b, marks, k)
	for point, gap := range gaps {
		if l, s := spile.Gap(b, point); !slices.Contains(l, gap) || s != api.Clear {
			t.Error("Gap", b, marks, k, point, l, s)
		}
	}
	can := len(lieAll(b, gaps)) > 0
	if sure, s := spile.Had(b); sure == api.Yes && !can || sure == api.No && can || s != api.Clear {
		t.Error("Had", b, marks, k, sure, s)
	}
	if shift, found, s := spile.Surely(b); found && !lie(b, gaps, shift) || s != api.Clear {
		t.Error("Surely", b, marks, k, shift, s)
	}
	if _, boats, s := spile.Most(b); boats == 0 && can || s != api.Clear {
		t.Error("Most", b, marks, k, boats, s)
	}
	if list, s := spile.Clash(b); len(list) > 0 || s != api.Clear {
		t.Error("Clash", b, list, s)
	}
}

// A gap is among those of a point just if the book agrees when it is checked; what is Open is so in a boat, and is not in another one.
func TestP7_7NoOthers(t *testing.T) {
	tried, sures, had := 0, map[api.Sure]int{}, map[api.Sure]int{}
	eachBook(t, 300, func(t *testing.T, b api.SpileBook, o *oracle, r *rand.Rand) {
		if len(o.ships) == 0 {
			return
		}
		for point := range b.Points {
			list, _ := spile.Gap(b, point)
			for n := -api.MaxSpileGap; n <= api.MaxSpileGap && len(b.Checks) < api.MaxSpileChecks; n++ {
				tried++
				_, s := spile.Check(b, check(point, one(n)))
				if has := slices.Contains(list, n); has != (s == api.Clear) || has != (o.with(point, n) > 0) {
					t.Error("Gap", point, n, list, s)
				}
			}
		}
		slipped, can := 0, 0
		for _, x := range o.ships {
			if x.slip != none() {
				slipped++
			}
			if _, found, _ := spile.Shifts(b, x.gaps); found {
				can++
			}
		}
		is := func(sure api.Sure, many int) bool {
			return (sure == api.Yes) == (many == len(o.ships)) && (sure == api.No) == (many == 0)
		}
		sure, _ := spile.Slipped(b)
		sures[sure]++
		if !is(sure, slipped) {
			t.Error("Slipped", sure, slipped)
		}
		sure, _ = spile.Had(b)
		had[sure]++
		if !is(sure, can) {
			t.Error("Had", sure, can)
		}
	})
	if tried < 100000 || sures[api.Open] < 50 || had[api.Open] < 50 {
		t.Error("the books are too much alike", tried, sures, had)
	}
}

// A check at the first point and one at the last point, each of one number, with sharp marks, tell whether the compass slipped, and by how much.
func TestP7_11TwoChecks(t *testing.T) {
	sures := map[api.Sure]int{}
	eachBook(t, 500, func(t *testing.T, b api.SpileBook, o *oracle, r *rand.Rand) {
		sharp := clone(b)
		var marks []int
		for i, p := range b.Points {
			marks = append(marks, some(r, p.Mark))
			sharp.Points[i].Mark = one(marks[i])
		}
		k, last := randomSlip(r, b), len(b.Points)-1
		gaps := gapsOf(b, marks, k)
		sharp.Checks = []api.SpileCheck{check(0, one(gaps[0])), check(last, one(gaps[last]))}
		sure, s := spile.Slipped(sharp)
		sures[sure]++
		if k == none() && sure != api.No || k != none() && sure != api.Yes || s != api.Clear {
			t.Error(sharp, k, sure, s)
		}
		slips, s := spile.Slips(sharp)
		if slices.ContainsFunc(slips, func(x api.SpileSlip) bool { return x.By != k.By }) || s != api.Clear {
			t.Error(sharp, k, slips, s)
		}
		if k != none() && len(slips) != last { // before which point, they do not tell
			t.Error(sharp, k, slips)
		}
	})
	if sures[api.Yes] < 150 || sures[api.No] < 150 || sures[api.Open] > 0 {
		t.Error("the books are too much alike", sures)
	}
}
