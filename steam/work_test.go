package steam_test

import (
	"math/rand"
	"slices"
	"testing"

	"ribband/api"
	"ribband/steam"
)

func TestP9_1Examples(t *testing.T) {
	b := parse(t, textV)
	want := done(0, 4, 4, 6, 0, 2, 2, 4, 2, 5, 6, 7)
	if w, s := steam.Work(b, on(4, 2, 3), on(0, 1, 2)); !slices.Equal(w, want) || s != api.Clear {
		t.Error(w, s)
	}
	if l, s := steam.Cold(b, on(4, 2, 3), on(0, 1, 2)); len(l) > 0 || s != api.Clear {
		t.Error(l, s)
	}
	if n, s := steam.End(b, on(4, 2, 3), on(0, 1, 2)); n != 7 || s != api.Clear {
		t.Error(n, s)
	}
	want = done(0, 4, 5, 7, 0, 3, 3, 5, 3, 6, 7, 8)
	if w, s := steam.Work(b, on(4, 3, 3), on(0, 1, 2)); !slices.Equal(w, want) || s != api.Clear {
		t.Error(w, s)
	}
	want = done(3, 7, 7, 9, 0, 3, 4, 6, 0, 3, 3, 4)
	if w, s := steam.Work(b, on(4, 3, 3), on(2, 1, 0)); !slices.Equal(w, want) || s != api.Clear {
		t.Error(w, s)
	}
	if l, s := steam.Cold(b, on(4, 3, 3), on(2, 1, 0)); !slices.Equal(l, on(1)) || s != api.Clear {
		t.Error(l, s)
	}
}

func TestP9_1CheckBook(t *testing.T) {
	notes := func(list ...api.SteamNote) func(b *api.SteamBook) {
		return func(b *api.SteamBook) { b.Notes = list }
	}
	plank := func(name string, ticks api.Span, hang, soft int) func(b *api.SteamBook) {
		return func(b *api.SteamBook) {
			b.Planks[1] = api.SteamPlank{Name: name, Steam: ticks, Hang: hang, Soft: soft}
		}
	}
	named := func(name string) func(b *api.SteamBook) { return plank(name, one(1), 1, 1) }
	for i, x := range []struct {
		change func(b *api.SteamBook)
		want   api.Snag
	}{
		{func(b *api.SteamBook) {}, api.Clear},
		{func(b *api.SteamBook) { b.Places = 0 }, api.Range},
		{func(b *api.SteamBook) { b.Places = 1 }, api.Clear},
		{func(b *api.SteamBook) { b.Places = 3 }, api.Clear},
		{func(b *api.SteamBook) { b.Places = 4 }, api.Range},
		{func(b *api.SteamBook) { b.Places = least }, api.Range},
		{func(b *api.SteamBook) { b.Places = most }, api.Range},
		{func(b *api.SteamBook) { b.Hands = 0 }, api.Range},
		{func(b *api.SteamBook) { b.Hands = 1 }, api.Clear},
		{func(b *api.SteamBook) { b.Hands = 3 }, api.Clear},
		{func(b *api.SteamBook) { b.Hands = 4 }, api.Range},
		{func(b *api.SteamBook) { b.Hands = -1 }, api.Range},
		{func(b *api.SteamBook) { b.Tide = -1 }, api.Range},
		{func(b *api.SteamBook) { b.Tide = 0 }, api.Clear},
		{func(b *api.SteamBook) { b.Tide = 200 }, api.Clear},
		{func(b *api.SteamBook) { b.Tide = 201 }, api.Range},
		{func(b *api.SteamBook) { b.Tide = most }, api.Range},
		{func(b *api.SteamBook) { b.Planks, b.Notes = nil, nil }, api.Many},
		{func(b *api.SteamBook) { b.Planks = b.Planks[:2] }, api.Clear},
		{func(b *api.SteamBook) {
			b.Planks = append(b.Planks, api.SteamPlank{Name: "a", Steam: one(1), Hang: 1, Soft: 1})
		}, api.Clear},
		{func(b *api.SteamBook) { b.Planks = make([]api.SteamPlank, 5) }, api.Many},
		{func(b *api.SteamBook) { b.Planks = make([]api.SteamPlank, 4) }, api.Name},
		// names
		{named("a"), api.Clear},
		{named("a234567890"), api.Clear},
		{named("a2345678901"), api.Name},
		{named(""), api.Name},
		{named("9a"), api.Name},
		{named("Rib"), api.Name},
		{named("ri b"), api.Name},
		{named("r\xff"), api.Name},
		{named("keel"), api.Again},
		{named("arm"), api.Again}, // of both the last one has the snag
		// times
		{plank("rib", one(1), 1, 1), api.Clear},
		{plank("rib", to(18, 20), 20, 20), api.Clear},
		{plank("rib", to(2, 4), 1, 1), api.Clear},
		{plank("rib", to(2, 5), 1, 1), api.Range},
		{plank("rib", to(0, 1), 1, 1), api.Range},
		{plank("rib", to(19, 21), 1, 1), api.Range},
		{plank("rib", to(3, 2), 1, 1), api.Range},
		{plank("rib", to(least, most), 1, 1), api.Range},
		{plank("rib", to(most, least), 1, 1), api.Range},
		{plank("rib", one(1), 0, 1), api.Range},
		{plank("rib", one(1), 21, 1), api.Range},
		{plank("rib", one(1), least, 1), api.Range},
		{plank("rib", one(1), 1, 0), api.Range},
		{plank("rib", one(1), 1, 21), api.Range},
		{plank("rib", one(1), 1, most), api.Range},
		{plank("Rib", one(0), 0, 0), api.Name}, // of one plank, this comes first
		{plank("keel", one(0), 0, 0), api.Again},
		{plank("arm", one(1), 1, 0), api.Range}, // the name is an earlier one only for the last plank
		{func(b *api.SteamBook) { b.Planks[0].Hang, b.Planks[1].Name = 0, "keel" }, api.Range},
		// notes
		{notes(), api.Clear},
		{notes(note(to(0, 80), 0, 1, 2)), api.Clear},
		{notes(note(one(0), 1)), api.Clear},
		{notes(make([]api.SteamNote, 4)...), api.Many},
		{notes(make([]api.SteamNote, 3)...), api.Many}, // none of them has planks
		{notes(note(one(3), 0), note(one(3), 0), note(one(3), 0)), api.Clear},
		{notes(note(one(3), 3)), api.Absent},
		{notes(note(one(3), -1)), api.Absent},
		{notes(note(one(3), 1, most)), api.Absent},
		{notes(note(one(3), 1, 1)), api.Turned},
		{notes(note(one(3), 1, 0)), api.Turned},
		{notes(note(to(0, 81), 0)), api.Range},
		{notes(note(to(-1, 3), 0)), api.Range},
		{notes(note(to(4, 3), 0)), api.Range},
		{notes(note(to(4, 3), 1, 0)), api.Turned}, // its planks come before its sum
		{notes(note(to(4, 3), 1, 0, 3)), api.Turned},
		{notes(note(to(4, 3), 1, 3, 0)), api.Absent},
		{notes(note(to(4, 3), 0), note(one(3))), api.Range}, // the first note that is wrong decides
		{notes(note(one(3), 0), note(one(3)), note(one(3), 3)), api.Many},
	} {
		b := parse(t, textV)
		x.change(&b)
		if s := steam.CheckBook(b); s != x.want {
			t.Error(i, s)
		}
	}
}

// Snags of a book come in the order of the chapter.
func TestP9_1CheckBookOrder(t *testing.T) {
	b := parse(t, textV)
	b.Tide = -1
	b.Notes = []api.SteamNote{{}, {}, {}, {}}
	b.Planks = append(b.Planks, api.SteamPlank{Name: "B"}, api.SteamPlank{})
	for i, x := range []struct {
		mend func()
		want api.Snag
	}{
		{func() {}, api.Range},
		{func() { b.Tide = 12 }, api.Many},
		{func() { b.Planks = b.Planks[:4] }, api.Name},
		{func() { b.Planks[3].Name = "rib" }, api.Again},
		{func() { b.Planks[3].Name = "b" }, api.Range},
		{func() { b.Planks[3].Steam, b.Planks[3].Hang = one(1), 1 }, api.Range},
		{func() { b.Planks[3].Soft = 1 }, api.Many},
		{func() { b.Notes[0] = note(to(4, 3), 4); b.Notes = b.Notes[:2] }, api.Absent},
		{func() { b.Notes[0].Planks = on(2, 1) }, api.Turned},
		{func() { b.Notes[0].Planks = on(1, 2) }, api.Range},
		{func() { b.Notes[0].Sum = one(4) }, api.Many},
		{func() { b.Notes = b.Notes[:1] }, api.Clear},
	} {
		x.mend()
		if s := steam.CheckBook(b); s != x.want {
			t.Error(i, s)
		}
	}
}

func TestP9_1TimesSnags(t *testing.T) {
	for i, x := range []struct {
		times []int
		want  api.Snag
	}{
		{on(4, 2, 3), api.Clear},
		{on(1, 20, 1), api.Clear}, // they need not be a boat
		{nil, api.Many},
		{on(4, 2), api.Many},
		{on(4, 2, 3, 3), api.Many},
		{on(0, 21), api.Many}, // how many there are comes first
		{on(0, 2, 3), api.Range},
		{on(4, 2, 21), api.Range},
		{on(4, -2, 3), api.Range},
		{on(4, most, least), api.Range},
	} {
		for _, text := range []string{textV, textC} {
			b := parse(t, text)
			for _, plan := range [][]int{on(0, 1, 2), nil, on(0, 0, 3)} {
				want := x.want
				if want == api.Clear && len(plan) == 0 {
					want = api.Many
				}
				if want == api.Clear && plan[1] == 0 {
					want = api.Again
				}
				wantsSnag(t, want, b, x.times, plan)
			}
			if is, s := steam.IsBoat(b, x.times); s != x.want || s != api.Clear && is {
				t.Error(i, "IsBoat", is, s)
			}
		}
	}
}

// wantsSnag tests the snag of all functions with times and a plan.
func wantsSnag(t *testing.T, want api.Snag, b api.SteamBook, times, plan []int) {
	t.Helper()
	if w, s := steam.Work(b, times, plan); s != want || s != api.Clear && len(w) > 0 {
		t.Error("Work", times, plan, w, s)
	}
	if l, s := steam.Cold(b, times, plan); s != want || s != api.Clear && len(l) > 0 {
		t.Error("Cold", times, plan, l, s)
	}
	if n, s := steam.End(b, times, plan); s != want || s != api.Clear && n != 0 {
		t.Error("End", times, plan, n, s)
	}
}

func TestP9_1PlanSnags(t *testing.T) {
	for i, x := range []struct {
		text string
		plan []int
		want api.Snag
	}{
		{textV, on(0, 1, 2), api.Clear},
		{textV, on(2, 0, 1), api.Clear},
		{textV, nil, api.Many},
		{textV, on(0, 1), api.Many},
		{textV, on(0, 1, 2, 3), api.Many},
		{textV, on(9, 9), api.Many}, // how many there are comes first
		{textV, on(0, 1, 3), api.Absent},
		{textV, on(-1, 1, 2), api.Absent},
		{textV, on(0, most, 1), api.Absent},
		{textV, on(0, 1, least), api.Absent},
		{textV, on(0, 0, 1), api.Again},
		{textV, on(0, 1, 0), api.Again},
		{textV, on(2, 1, 1), api.Again},
		{textV, on(0, 0, 3), api.Again}, // the first one that has a snag decides
		{textV, on(0, 3, 0), api.Absent},
		{textV, on(3, 3, 0), api.Absent}, // and of its snags the first one
		{textO, on(0), api.Clear},
		{textO, on(1), api.Absent},
		{textO, on(0, 0), api.Many},
	} {
		b := parse(t, x.text)
		wantsSnag(t, x.want, b, slices.Repeat(on(3), len(b.Planks)), x.plan)
		if v, s := steam.Ends(b, x.plan); s != x.want || s != api.Clear && v != to(0, 0) {
			t.Error(i, "Ends", v, s)
		}
		if v, s := steam.Hung(b, x.plan, 0); s != x.want || s != api.Clear && v != api.Open {
			t.Error(i, "Hung", v, s)
		}
		if v, s := steam.Good(b, x.plan); s != x.want || s != api.Clear && v != api.Open {
			t.Error(i, "Good", v, s)
		}
	}
}

func TestP9_1Work(t *testing.T) {
	const (
		three = "plank a 1 2 9\nplank b 1 1 9\nplank c 1 4 9\n"
		four  = "plank a 1 3 9\nplank b 1 3 9\nplank c 1 3 9\nplank d 1 3 9\n"
	)
	for i, x := range []struct {
		text        string
		times, plan []int
		want        []api.SteamWork
		cold        []int
		end         int
	}{
		// one place: one after the other
		{"steam 1 1 0\n" + three, on(3, 4, 5), on(0, 1, 2), done(0, 3, 3, 5, 3, 7, 7, 8, 7, 12, 12, 16), nil, 16},
		{"steam 1 1 0\n" + three, on(3, 4, 5), on(2, 0, 1), done(5, 8, 9, 11, 8, 12, 12, 13, 0, 5, 5, 9), nil, 13},
		{"steam 1 3 0\n" + three, on(3, 4, 5), on(2, 0, 1), done(5, 8, 8, 10, 8, 12, 12, 13, 0, 5, 5, 9), nil, 13},
		// they leave at once: in the order of the plan
		{"steam 3 1 0\n" + three, on(3, 3, 3), on(0, 1, 2), done(0, 3, 3, 5, 0, 3, 5, 6, 0, 3, 6, 10), nil, 10},
		{"steam 3 1 0\n" + three, on(3, 3, 3), on(2, 0, 1), done(0, 3, 7, 9, 0, 3, 9, 10, 0, 3, 3, 7), nil, 10},
		{"steam 3 2 0\n" + three, on(3, 3, 3), on(2, 0, 1), done(0, 3, 3, 5, 0, 3, 5, 6, 0, 3, 3, 7), nil, 7},
		{"steam 3 3 0\n" + three, on(3, 3, 3), on(2, 0, 1), done(0, 3, 3, 5, 0, 3, 3, 4, 0, 3, 3, 7), nil, 7},
		// what was put in later leaves at once with what was put in before it
		{"steam 2 1 0\n" + three, on(3, 2, 5), on(2, 1, 0), done(2, 5, 9, 11, 0, 2, 2, 3, 0, 5, 5, 9), nil, 11},
		// what was put in later leaves before what was put in before it
		{"steam 2 1 0\n" + four, on(2, 2, 5, 1), on(0, 1, 2, 3), done(0, 2, 2, 5, 0, 2, 5, 8, 2, 7, 11, 14, 2, 3, 8, 11), nil, 14},
		{"steam 2 1 0\n" + four, on(2, 2, 5, 1), on(2, 3, 1, 0), done(3, 5, 10, 13, 1, 3, 4, 7, 0, 5, 7, 10, 0, 1, 1, 4), nil, 13},
		{"steam 3 2 0\n" + four, on(9, 1, 1, 1), on(0, 1, 2, 3), done(0, 9, 9, 12, 0, 1, 1, 4, 0, 1, 1, 4, 1, 2, 4, 7), nil, 12},
		// as soon as the first of those that are in the box leaves it, whichever this is
		{"steam 3 3 0\n" + four, on(3, 2, 4, 1), on(0, 1, 2, 3), done(0, 3, 3, 6, 0, 2, 2, 5, 0, 4, 5, 8, 2, 3, 3, 6), nil, 8},
		// no hand is asked for what is in the box, and no place for what waits for a hand
		{"steam 1 1 0\nplank a 1 20 20\nplank b 1 20 20\n", on(1, 1), on(0, 1), done(0, 1, 1, 21, 1, 2, 21, 41), on(1), 41},
		// within Soft ticks is not cold, one more is
		{"steam 1 1 0\nplank a 1 3 3\nplank b 1 2 5\n", on(5, 1), on(0, 1), done(0, 5, 5, 8, 5, 6, 8, 10), nil, 10},
		{"steam 1 1 0\nplank a 1 3 3\nplank b 1 2 4\n", on(5, 1), on(0, 1), done(0, 5, 5, 8, 5, 6, 8, 10), nil, 10},
		{"steam 1 1 0\nplank a 1 3 3\nplank b 1 2 3\n", on(5, 1), on(0, 1), done(0, 5, 5, 8, 5, 6, 8, 10), on(1), 10},
		{"steam 1 1 0\nplank a 1 3 2\nplank b 1 2 3\n", on(5, 1), on(0, 1), done(0, 5, 5, 8, 5, 6, 8, 10), on(0, 1), 10}, // even if it is hung at once
		{"steam 1 1 0\nplank a 1 3 2\nplank b 1 2 3\n", on(5, 1), on(1, 0), done(1, 6, 6, 9, 0, 1, 1, 3), on(0), 9},
		// the greatest numbers
		{"steam 1 1 0\nplank a 1 20 20\nplank b 1 20 20\nplank c 1 20 20\nplank d 1 20 20\n", on(20, 20, 20, 20), on(3, 2, 1, 0), done(60, 80, 80, 100, 40, 60, 60, 80, 20, 40, 40, 60, 0, 20, 20, 40), nil, 100},
		{textC, on(4, 3, 3), on(0, 1, 2), done(0, 4, 5, 7, 0, 3, 3, 5, 3, 6, 7, 8), nil, 8}, // even if there is no boat
		{textO, on(20), on(0), done(0, 20, 20, 23), on(0), 23},
	} {
		b := parse(t, x.text)
		if w, s := steam.Work(b, x.times, x.plan); !slices.Equal(w, x.want) || s != api.Clear {
			t.Error(i, "Work", w, s)
		}
		if w := worked(b, x.times, x.plan); !slices.Equal(w, x.want) {
			t.Error(i, "the oracle is wrong", w)
		}
		if l, s := steam.Cold(b, x.times, x.plan); !slices.Equal(l, x.cold) || s != api.Clear {
			t.Error(i, "Cold", l, s)
		}
		if n, s := steam.End(b, x.times, x.plan); n != x.end || s != api.Clear {
			t.Error(i, "End", n, s)
		}
	}
}

func TestP9_1IsBoat(t *testing.T) {
	for i, x := range []struct {
		text  string
		times []int
		want  bool
	}{
		{textV, on(4, 2, 3), true},
		{textV, on(4, 3, 3), true},
		{textV, on(4, 1, 3), false},
		{textV, on(4, 4, 3), false},
		{textV, on(3, 3, 3), false},
		{textV, on(4, 3, 4), false},
		{textV + "note 1+2 5\n", on(4, 2, 3), true},
		{textV + "note 1+2 5\n", on(4, 3, 3), false}, // all notes must be right
		{textV + "note 0+1+2 10\n", on(4, 3, 3), true},
		{textV + "note 0+1+2 10\n", on(4, 2, 3), false},
		{headV + "note 0+1 0..6\n", on(4, 3, 3), false},
		{headV + "note 0+1 7..80\n", on(4, 2, 3), false},
		{textC, on(4, 2, 3), false},
		{textD, on(4, 2, 3), false},
		{textD, on(4, 3, 3), false},
		{textT, on(4, 3, 3), true}, // whether it is good makes no difference
		{textO, on(1), true},
		{textO, on(2), false},
	} {
		if is, s := steam.IsBoat(parse(t, x.text), x.times); is != x.want || s != api.Clear {
			t.Error(i, is, s)
		}
	}
}

func TestP9_1Everything(t *testing.T) {
	colds, later, boats := map[bool]int{}, 0, map[bool]int{}
	eachBook(t, 1000, func(t *testing.T, b api.SteamBook, o *oracle, r *rand.Rand) {
		for range 6 {
			l, plan := randomTimes(r, b), anyOf(r, o.plans)
			want := worked(b, l, plan)
			if w, s := steam.Work(b, l, plan); !slices.Equal(w, want) || s != api.Clear {
				t.Error("Work", l, plan, w, s, want)
			}
			colds[len(coldOf(b, want)) > 0]++
			if c, s := steam.Cold(b, l, plan); !slices.Equal(c, coldOf(b, want)) || s != api.Clear {
				t.Error("Cold", l, plan, c, s)
			}
			if n, s := steam.End(b, l, plan); n != endOf(want) || s != api.Clear {
				t.Error("End", l, plan, n, s)
			}
			if slices.ContainsFunc(want, func(w api.SteamWork) bool { return w.In > 0 && w.Begun > w.Out }) {
				later++
			}
			boats[o.has(l)]++
			if is, s := steam.IsBoat(b, l); is != o.has(l) || s != api.Clear {
				t.Error("IsBoat", l, is, s)
			}
		}
	})
	if colds[true] < 1000 || colds[false] < 1000 || later < 800 || boats[true] < 300 || boats[false] < 1000 {
		t.Error("the books are too much alike", colds, later, boats)
	}
}

// A plank is in the box for its time, is begun when it is out or later, and is done when it was hung; there are never more in the box than places, nor more begun than hands; no place is empty and no hand free while a plank waits for it.
func TestP9_8OrderOfWork(t *testing.T) {
	forBox, forHand := 0, 0
	eachBook(t, 500, func(t *testing.T, b api.SteamBook, o *oracle, r *rand.Rand) {
		for range 6 {
			l, plan := randomTimes(r, b), anyOf(r, o.plans)
			w, s := steam.Work(b, l, plan)
			if s != api.Clear || len(w) != len(b.Planks) {
				t.Fatal(l, plan, w, s)
			}
			for plank, x := range w {
				if x.In < 0 || x.Out != x.In+l[plank] || x.Begun < x.Out || x.Done != x.Begun+b.Planks[plank].Hang {
					t.Error("a plank", l, plan, w)
				}
			}
			for now := range endOf(w) {
				in, inBox := 0, 0
				hung, atWork := 0, 0
				for _, x := range w {
					if x.In > now {
						in++
					} else if now < x.Out {
						inBox++
					}
					if x.Out <= now && now < x.Begun {
						hung++
					} else if x.Begun <= now && now < x.Done {
						atWork++
					}
				}
				if inBox > b.Places || in > 0 && inBox < b.Places {
					t.Error("the box", l, plan, w, now)
				}
				if atWork > b.Hands || hung > 0 && atWork < b.Hands {
					t.Error("the hands", l, plan, w, now)
				}
				forBox, forHand = forBox+in, forHand+hung
			}
			inOrder(t, w, plan)
		}
	})
	if forBox < 20000 || forHand < 5000 {
		t.Error("too few planks wait", forBox, forHand)
	}
}

// inOrder tests that planks are put in in the order of the plan, and begun in the order in which they leave.
func inOrder(t *testing.T, w []api.SteamWork, plan []int) {
	t.Helper()
	for i, later := range plan {
		for _, plank := range plan[:i] {
			if w[plank].In > w[later].In {
				t.Error("put in", w, plan)
			}
			if w[plank].Out <= w[later].Out && w[plank].Begun > w[later].Begun || w[plank].Out > w[later].Out && w[plank].Begun < w[later].Begun {
				t.Error("begun", w, plan)
			}
		}
	}
}

// With one place planks leave the box one after the other, at the sums of their times.
func TestP9_9OnePlace(t *testing.T) {
	eachBook(t, 300, func(t *testing.T, b api.SteamBook, o *oracle, r *rand.Rand) {
		b.Places = 1
		l, plan := randomTimes(r, b), anyOf(r, o.plans)
		w, s := steam.Work(b, l, plan)
		sum := 0
		for _, plank := range plan {
			sum += l[plank]
			if w[plank].Out != sum || s != api.Clear {
				t.Error(l, plan, w, s)
			}
		}
	})
}

// With as many places and hands as planks each one is done after its own time.
func TestP9_9OneHand(t *testing.T) {
	eachBook(t, 300, func(t *testing.T, b api.SteamBook, o *oracle, r *rand.Rand) {
		if len(b.Planks) > api.MaxSteamPlaces {
			return
		}
		b.Places = some(r, to(len(b.Planks), api.MaxSteamPlaces))
		b.Hands = some(r, to(len(b.Planks), api.MaxSteamHands))
		l, plan := randomTimes(r, b), anyOf(r, o.plans)
		w, s := steam.Work(b, l, plan)
		for plank, time := range l {
			hang := b.Planks[plank].Hang
			if (w[plank] != api.SteamWork{In: 0, Out: time, Begun: time, Done: time + hang}) || s != api.Clear {
				t.Error(l, plan, w, s)
			}
		}
	})
}
