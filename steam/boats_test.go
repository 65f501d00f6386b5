package steam_test

import (
	"math/rand"
	"slices"
	"testing"

	"ribband/api"
	"ribband/steam"
)

func TestP9_2Examples(t *testing.T) {
	b := parse(t, textV)
	if n, s := steam.Boats(b); n != 2 || s != api.Clear {
		t.Error(n, s)
	}
	if l, s := steam.Times(b, 1); !slices.Equal(l, on(2, 3)) || s != api.Clear {
		t.Error(l, s)
	}
	if x, s := steam.Ends(b, on(0, 1, 2)); x != to(7, 8) || s != api.Clear {
		t.Error(x, s)
	}
	if sure, s := steam.Good(b, on(0, 1, 2)); sure != api.Yes || s != api.Clear {
		t.Error(sure, s)
	}
	if sure, s := steam.Hung(b, on(2, 1, 0), 1); sure != api.Open || s != api.Clear {
		t.Error(sure, s)
	}
	if sure, s := steam.Good(b, on(2, 1, 0)); sure != api.Open || s != api.Clear {
		t.Error(sure, s)
	}
}

// Notes leave fewer boats, or none.
func TestP9_2Known(t *testing.T) {
	for i, x := range []struct {
		text     string
		boats    int
		rib, arm []int
		ends     api.Span
		good     api.Sure // of the plan 2, 1, 0
		s        api.Snag
	}{
		{headV, 2, on(2, 3), on(3), to(8, 9), api.Open, api.Clear},
		{textV, 2, on(2, 3), on(3), to(8, 9), api.Open, api.Clear},
		{textV + "note 1 2\n", 1, on(2), on(3), one(8), api.Yes, api.Clear},
		{textV + "note 1 3\n", 1, on(3), on(3), one(9), api.No, api.Clear}, // hung cold
		{textV + "note 0+1+2 0..9\n", 1, on(2), on(3), one(8), api.Yes, api.Clear},
		{textV + "note 0+1+2 10..80\n", 1, on(3), on(3), one(9), api.No, api.Clear},
		{textV + "note 0+1+2 0..80\n", 2, on(2, 3), on(3), to(8, 9), api.Open, api.Clear},
		{textC, 0, nil, nil, to(0, 0), api.Open, api.Foul},
		{textD, 0, nil, nil, to(0, 0), api.Open, api.Foul},
		{headV + "note 2 4\n", 0, nil, nil, to(0, 0), api.Open, api.Foul},
		{textT, 2, on(2, 3), on(3), to(8, 9), api.No, api.Clear}, // too late in any boat
	} {
		b := parse(t, x.text)
		if n, s := steam.Boats(b); n != x.boats || s != api.Clear {
			t.Error(i, "Boats", n, s)
		}
		for plank, want := range map[int][]int{1: x.rib, 2: x.arm} {
			if l, s := steam.Times(b, plank); !slices.Equal(l, want) || s != x.s {
				t.Error(i, "Times", plank, l, s)
			}
		}
		if v, s := steam.Ends(b, on(2, 1, 0)); v != x.ends || s != x.s {
			t.Error(i, "Ends", v, s)
		}
		if v, s := steam.Good(b, on(2, 1, 0)); v != x.good || s != x.s {
			t.Error(i, "Good", v, s)
		}
	}
}

func TestP9_2Plans(t *testing.T) {
	const o, y, n = api.Open, api.Yes, api.No
	for i, x := range []struct {
		text string
		plan []int
		cold []api.Sure // of each plank
		good api.Sure
		ends api.Span
	}{
		{textV, on(0, 1, 2), []api.Sure{n, n, n}, y, to(7, 8)},
		{textV, on(0, 2, 1), []api.Sure{n, o, n}, o, one(8)}, // one end, though a plank is perhaps cold
		{textV, on(1, 2, 0), []api.Sure{n, n, n}, y, to(8, 9)},
		{textT, on(0, 1, 2), []api.Sure{n, n, n}, o, to(7, 8)}, // no plank is cold, but it is perhaps too late
		{textT, on(1, 2, 0), []api.Sure{n, n, n}, n, to(8, 9)}, // or surely
		{textO, on(0), []api.Sure{y}, n, one(4)},
		{textW, on(0, 1, 2, 3), []api.Sure{n, n, n, o}, o, to(10, 12)},
		{textW, on(2, 3, 1, 0), []api.Sure{n, n, n, n}, y, to(10, 15)},
		{textW, on(0, 2, 3, 1), []api.Sure{n, n, o, o}, o, to(12, 13)}, // never both in each boat
		{"steam 2 2 4\nplank a 2 2 2\nplank b 1..3 1 1\n", on(0, 1), []api.Sure{n, n}, y, one(4)},
		{"steam 2 2 3\nplank a 2 2 2\nplank b 1..3 1 1\n", on(0, 1), []api.Sure{n, n}, n, one(4)}, // a tick too late
		{"steam 2 1 200\nplank a 2 2 2\nplank b 1..3 1 1\n", on(0, 1), []api.Sure{n, o}, o, to(4, 5)},
		{"steam 2 1 200\nplank a 2 2 2\nplank b 1..3 1 1\n", on(1, 0), []api.Sure{o, o}, o, to(4, 5)}, // never both in one boat
		{"steam 2 1 200\nplank a 2 2 2\nplank b 2 1 1\n", on(1, 0), []api.Sure{y, n}, n, one(5)},
	} {
		b := parse(t, x.text)
		for plank, want := range x.cold {
			if v, s := steam.Hung(b, x.plan, plank); v != want || s != api.Clear {
				t.Error(i, "Hung", plank, v, s)
			}
		}
		if v, s := steam.Good(b, x.plan); v != x.good || s != api.Clear {
			t.Error(i, "Good", v, s)
		}
		if v, s := steam.Ends(b, x.plan); v != x.ends || s != api.Clear {
			t.Error(i, "Ends", v, s)
		}
	}
}

func TestP9_2Absent(t *testing.T) {
	for _, text := range []string{textV, textC} {
		b := parse(t, text)
		for _, plank := range []int{-1, 3, most, least} {
			if l, s := steam.Times(b, plank); len(l) > 0 || s != api.Absent {
				t.Error(text, plank, l, s)
			}
			if v, s := steam.Hung(b, on(0, 1, 2), plank); v != api.Open || s != api.Absent {
				t.Error(text, plank, v, s)
			}
		}
	}
}

func TestP9_2Everything(t *testing.T) {
	snags, goods, colds, wide := map[api.Snag]int{}, map[api.Sure]int{}, map[api.Sure]int{}, 0
	eachBook(t, 600, func(t *testing.T, b api.SteamBook, o *oracle, r *rand.Rand) {
		want := o.snag()
		snags[want]++
		if n, s := steam.Boats(b); n != len(o.boats) || s != api.Clear {
			t.Error("Boats", n, s, len(o.boats))
		}
		for plank := range b.Planks {
			if l, s := steam.Times(b, plank); !slices.Equal(l, o.times(plank)) || s != want {
				t.Error("Times", plank, l, s)
			}
		}
		for range 4 {
			plan := o.anyPlan(r)
			x := o.look(plan, b.Hands)
			if v, s := steam.Ends(b, plan); v != x.ends || s != want {
				t.Error("Ends", plan, v, s, x)
			}
			if x.ends.High > x.ends.Low {
				wide++
			}
			for plank, many := range x.cold {
				if v, s := steam.Hung(b, plan, plank); v != o.sure(many) || s != want {
					t.Error("Hung", plan, plank, v, s, x)
				}
				colds[o.sure(many)]++
			}
			if v, s := steam.Good(b, plan); v != o.sure(x.good) || s != want {
				t.Error("Good", plan, v, s, x)
			}
			goods[o.sure(x.good)]++
		}
	})
	if snags[api.Foul] < 60 || snags[api.Clear] < 400 || wide < 500 {
		t.Error("the books are too much alike", snags, wide)
	}
	for _, seen := range []map[api.Sure]int{goods, colds} {
		if seen[api.Yes] < 300 || seen[api.No] < 300 || seen[api.Open] < 300 {
			t.Error("the books are too much alike", goods, colds)
		}
	}
}

// A book of the greatest size: each of 81 lists of times is a boat.
func TestGreatestBook(t *testing.T) {
	b := api.SteamBook{Places: 3, Hands: 3, Tide: api.MaxSteamTide}
	for _, name := range names() {
		b.Planks = append(b.Planks, api.SteamPlank{Name: name, Steam: to(18, 20), Hang: 20, Soft: 20})
	}
	for range api.MaxSteamNotes {
		b.Notes = append(b.Notes, note(to(0, 80), 0, 1, 2, 3))
	}
	if n, s := steam.Boats(b); n != 81 || s != api.Clear {
		t.Error(n, s)
	}
	if plank, left, s := steam.Ask(b); plank != 0 || left != 27 || s != api.Clear {
		t.Error(plank, left, s)
	}
	// the last plank is put in when the first one leaves, and waits for the hand that hangs this one
	if x, s := steam.Ends(b, on(3, 2, 1, 0)); x != to(58, 60) || s != api.Clear {
		t.Error(x, s)
	}
	if n, s := steam.Plans(b); n != 0 || s != api.Clear {
		t.Error(n, s)
	}
	if hands, found, s := steam.Fewest(b); hands != 0 || found || s != api.Clear {
		t.Error(hands, found, s)
	}
	b.Places = 1 // so the planks leave one after the other, and each one finds a hand
	if x, s := steam.Ends(b, on(0, 1, 2, 3)); x != to(92, 100) || s != api.Clear {
		t.Error(x, s)
	}
	if n, s := steam.Plans(b); n != 24 || s != api.Clear {
		t.Error(n, s)
	}
	if plan, ends, found, s := steam.Soonest(b); !slices.Equal(plan, on(0, 1, 2, 3)) || ends != to(92, 100) || !found || s != api.Clear {
		t.Error(plan, ends, found, s)
	}
	if hands, found, s := steam.Fewest(b); hands != 2 || !found || s != api.Clear {
		t.Error(hands, found, s)
	}
	b.Notes[2].Sum = one(80)
	if n, s := steam.Boats(b); n != 1 || s != api.Clear {
		t.Error(n, s)
	}
	if hands, found, s := steam.Fewest(b); hands != 1 || !found || s != api.Clear {
		t.Error(hands, found, s)
	}
}

// Whatever times the planks really need, if the notes are right: they are a boat, and all that is told is so.
func TestP9_6WhateverItIs(t *testing.T) {
	tried := 0
	eachBook(t, 250, func(t *testing.T, b api.SteamBook, o *oracle, r *rand.Rand) {
		for range 2 {
			x, l := clone(b), anyOf(r, o.ways)
			x.Notes = nil
			for range r.Intn(api.MaxSteamNotes + 1) {
				x.Notes = append(x.Notes, noteAbout(r, l))
			}
			tried++
			tellsRight(t, x, l, anyOf(r, o.plans), anyOf(r, o.plans))
		}
	})
	if tried < 400 {
		t.Error("too few boats", tried)
	}
}

// tellsRight tests that all that a book tells of some plans is so of times that are one of its boats.
func tellsRight(t *testing.T, b api.SteamBook, l []int, plans ...[]int) {
	t.Helper()
	if is, s := steam.IsBoat(b, l); !is || s != api.Clear {
		t.Error("IsBoat", b, l, is, s)
	}
	if n, s := steam.Boats(b); n < 1 || s != api.Clear {
		t.Error("Boats", b, l, n, s)
	}
	for plank, n := range l {
		if list, s := steam.Times(b, plank); !slices.Contains(list, n) || s != api.Clear {
			t.Error("Times", b, l, plank, list, s)
		}
	}
	if list, s := steam.Clash(b); len(list) > 0 || s != api.Clear {
		t.Error("Clash", b, l, list, s)
	}
	for _, plan := range plans {
		w := worked(b, l, plan)
		if x, s := steam.Ends(b, plan); endOf(w) < x.Low || endOf(w) > x.High || s != api.Clear {
			t.Error("Ends", b, l, plan, x, s)
		}
		for plank := range b.Planks {
			is := isCold(b, w, plank)
			if sure, s := steam.Hung(b, plan, plank); sure == api.Yes && !is || sure == api.No && is || s != api.Clear {
				t.Error("Hung", b, l, plan, plank, sure, s)
			}
		}
		is := isGood(b, w)
		if sure, s := steam.Good(b, plan); sure == api.Yes && !is || sure == api.No && is || s != api.Clear {
			t.Error("Good", b, l, plan, sure, s)
		}
	}
	plan, ends, found, s := steam.Soonest(b)
	if s != api.Clear {
		t.Error("Soonest", b, l, s)
	}
	if found {
		if w := worked(b, l, plan); !isGood(b, w) || endOf(w) < ends.Low || endOf(w) > ends.High {
			t.Error("Soonest", b, l, plan, ends)
		}
	}
}

// A time is told just if the book agrees when it is measured; both ends of Ends are those of boats; what is Open is so in one boat, and is not in another one.
func TestP9_7NoOthers(t *testing.T) {
	tried, sures := 0, map[api.Sure]int{}
	eachBook(t, 300, func(t *testing.T, b api.SteamBook, o *oracle, r *rand.Rand) {
		if len(o.boats) == 0 {
			return
		}
		for plank := range b.Planks {
			list, _ := steam.Times(b, plank)
			for n := 1; n <= api.MaxSteamTicks; n++ {
				tried++
				_, s := steam.Time(b, plank, one(n))
				if has := slices.Contains(list, n); has != (o.count(plank, n) > 0) || has != (s == api.Clear) {
					t.Error("Times", plank, n, list, s)
				}
			}
		}
		for range 3 {
			plan := anyOf(r, o.plans)
			ends, good, cold := map[int]bool{}, map[bool]bool{}, map[bool]bool{}
			plank := r.Intn(len(b.Planks))
			for _, boat := range o.boats {
				end, _ := steam.End(b, boat, plan)
				list, _ := steam.Cold(b, boat, plan)
				ends[end] = true
				cold[slices.Contains(list, plank)] = true
				good[len(list) == 0 && end <= b.Tide] = true
			}
			if x, _ := steam.Ends(b, plan); !ends[x.Low] || !ends[x.High] {
				t.Error("Ends", plan, x, ends)
			}
			sure, _ := steam.Good(b, plan)
			sures[sure]++
			if sure != sureOf(good) {
				t.Error("Good", plan, sure, good)
			}
			if sure, _ := steam.Hung(b, plan, plank); sure != sureOf(cold) {
				t.Error("Hung", plan, plank, sure, cold)
			}
		}
	})
	if tried < 10000 || sures[api.Open] < 50 {
		t.Error("the books are too much alike", tried, sures)
	}
}

// sureOf tells how sure it is what is so in some boats, and not in others.
func sureOf(is map[bool]bool) api.Sure {
	switch {
	case is[true] && is[false]:
		return api.Open
	case is[true]:
		return api.Yes
	}
	return api.No
}
