package butt_test

import (
	"math/rand"
	"slices"
	"testing"

	"ribband/api"
	"ribband/butt"
)

func TestP6_2Examples(t *testing.T) {
	b := parse(t, textP)
	if n, s := butt.Boats(b); n != 2 || s != api.Clear {
		t.Error(n, s)
	}
	if l, s := butt.Numbers(b, 0); !slices.Equal(l, []int{2, 3}) || s != api.Clear {
		t.Error(l, s)
	}
	if sure, s := butt.Can(b, lay(on(2), on(4))); sure != api.Yes || s != api.Clear {
		t.Error(sure, s)
	}
	if sure, s := butt.Can(b, lay(nil, on(2))); sure != api.No || s != api.Clear {
		t.Error(sure, s)
	}
}

// Notes leave fewer boats, or none.
func TestP6_2Known(t *testing.T) {
	const wide = headP + "kind 2 1 0..2\nkind 4 3 2..4\n"
	for i, x := range []struct {
		text        string
		boats       int
		first, next []int
		can         api.Sure // that 2 / 4 is planked
		s           api.Snag
	}{
		{textP, 2, on(2, 3), on(3), api.Yes, api.Clear},
		{textP + "note 0 3\n", 1, on(3), on(3), api.Yes, api.Clear},
		{textP + "note 0+1 0..36\n", 2, on(2, 3), on(3), api.Yes, api.Clear},
		{textP + "note 0+1 5\nnote 0 2\nnote 1 3\n", 1, on(2), on(3), api.Yes, api.Clear},
		{textC, 0, nil, nil, api.Open, api.Foul},
		{textP + "note 1 2\n", 0, nil, nil, api.Open, api.Foul},
		{textO, 4, on(1, 2), on(2, 3), api.Open, api.Clear},
		{textO + "note 0+1 3\n", 1, on(1), on(2), api.No, api.Clear},
		{textO + "note 0+1 4..36\n", 3, on(1, 2), on(2, 3), api.Yes, api.Clear},
		{textO + "note 0+1 4\n", 2, on(1, 2), on(2, 3), api.Yes, api.Clear},
		{textO + "note 1 2\n", 2, on(1, 2), on(2), api.Open, api.Clear},
		{wide, 9, on(0, 1, 2), on(2, 3, 4), api.Open, api.Clear},
		{wide + "note 0+1 4\n", 3, on(0, 1, 2), on(2, 3, 4), api.Yes, api.Clear},
		{wide + "note 0+1 2..3\n", 3, on(0, 1), on(2, 3), api.No, api.Clear},
		{wide + "note 0+1 3\nnote 1 3..4\n", 1, on(0), on(3), api.No, api.Clear},
	} {
		b := parse(t, x.text)
		if n, s := butt.Boats(b); n != x.boats || s != api.Clear {
			t.Error(i, "Boats", n, s)
		}
		for kind, want := range [][]int{x.first, x.next} {
			if l, s := butt.Numbers(b, kind); !slices.Equal(l, want) || s != x.s {
				t.Error(i, "Numbers", kind, l, s)
			}
		}
		if sure, s := butt.Can(b, lay(on(2), on(4))); sure != x.can || s != x.s {
			t.Error(i, "Can", sure, s)
		}
	}
}

func TestP6_2Can(t *testing.T) {
	for i, x := range []struct {
		text   string
		layout [][]int
		want   api.Sure
	}{
		{textP, lay(on(4), on(2)), api.Yes},
		{textP, lay(on(2), on(3)), api.No},  // it does not keep the rules
		{textP, lay(on(2, 4), nil), api.No}, // no board is so long
		{textP, lay(on(3), nil), api.No},
		{textE, lay(nil), api.Yes},         // the one long board
		{textE, lay(on(1, 2, 3)), api.Yes}, // if there are three short ones the long one, too
		{textE, lay(on(2)), api.No},        // two planks that only the long board does for
		{textE, lay(on(1)), api.Yes},
		{textE, lay(on(1, 2)), api.Yes},
		{textN, lay(nil, nil), api.No}, // there are boards, but no plank can be so long as it must be
		{textN, lay(on(1), on(1, 2)), api.No},
		{"butt 2 1 0 0 1\nkind 1 9 0..1\nkind 2 9 1\n", lay(on(1)), api.Open},
		{"butt 2 1 0 0 1\nkind 1 9 0..1\nkind 2 9 1..2\n", lay(on(1)), api.Open},
		{"butt 2 1 0 0 1\nkind 1 9 0..1\nkind 2 9 1..2\nnote 0+1 2\n", lay(on(1)), api.Yes},
		{"butt 2 1 0 0 1\nkind 1 9 0..2\n", lay(nil), api.No},
		{"butt 2 1 0 0 1\nkind 1 9 1\nkind 2 9 0..2\n", lay(nil), api.Open},
	} {
		if sure, s := butt.Can(parse(t, x.text), x.layout); sure != x.want || s != api.Clear {
			t.Error(i, sure, s)
		}
	}
}

func TestP6_2IsBoat(t *testing.T) {
	for i, x := range []struct {
		text    string
		numbers []int
		want    bool
	}{
		{textP, on(2, 3), true},
		{textP, on(3, 3), true},
		{textP, on(1, 3), false},
		{textP, on(4, 3), false},
		{textP, on(2, 2), false},
		{textP, on(3, 2), false},
		{textP + "note 0+1 5\n", on(2, 3), true},
		{textP + "note 0+1 5\n", on(3, 3), false},
		{textP + "note 0+1 5..6\nnote 0 3\n", on(2, 3), false}, // all notes must be right
		{textP + "note 0+1 5..6\nnote 0 3\n", on(3, 3), true},
		{textC, on(2, 3), false},
		{textC, on(3, 3), false},
		{textP + "kind 6 1 0..1\nnote 0+2 3\nnote 1+2 3\n", on(3, 3, 0), true},
		{textP + "kind 6 1 0..1\nnote 0+2 3\nnote 1+2 3\n", on(2, 3, 1), false},
		{textP + "kind 6 1 0..1\nnote 0+2 3\nnote 0+1+2 6\n", on(2, 3, 1), true},
	} {
		if is, s := butt.IsBoat(parse(t, x.text), x.numbers); is != x.want || s != api.Clear {
			t.Error(i, is, s)
		}
	}
}

func TestP6_2Absent(t *testing.T) {
	for _, text := range []string{textP, textC} {
		b := parse(t, text)
		for _, kind := range []int{-1, 2, most, least} {
			if l, s := butt.Numbers(b, kind); len(l) > 0 || s != api.Absent {
				t.Error(text, kind, l, s)
			}
		}
	}
}

func TestP6_2Everything(t *testing.T) {
	snags, sures := map[api.Snag]int{}, map[api.Sure]int{}
	eachBook(t, 1000, func(t *testing.T, b api.ButtBook, o *oracle, r *rand.Rand) {
		want := o.snag()
		snags[want]++
		if n, s := butt.Boats(b); n != len(o.boats) || s != api.Clear {
			t.Error("Boats", n, s, len(o.boats))
		}
		for kind := range b.Kinds {
			if l, s := butt.Numbers(b, kind); !slices.Equal(l, o.numbers(kind)) || s != want {
				t.Error("Numbers", kind, l, s)
			}
		}
		for range 5 {
			numbers := randomNumbers(r, b)
			if is, s := butt.IsBoat(b, numbers); is != isBoat(b, numbers) || s != api.Clear {
				t.Error("IsBoat", numbers, is, s)
			}
			l := o.anyLayout(r)
			sure, _ := o.can(l)
			if want == api.Clear {
				sures[sure]++
			}
			if v, s := butt.Can(b, l); v != sure || s != want {
				t.Error("Can", l, v, s, sure)
			}
		}
	})
	if snags[api.Foul] < 100 || snags[api.Clear] < 500 || sures[api.Yes] < 400 || sures[api.Open] < 150 || sures[api.No] < 800 {
		t.Error("the books are too much alike", snags, sures)
	}
}

// A book of the greatest size: all of 32768 layouts keep its rules, and each of 27 numbers of boards is a boat.
func TestGreatestBook(t *testing.T) {
	b := api.ButtBook{Frames: 6, Strakes: 3, Least: 1}
	for long := 1; long <= api.MaxButtKinds; long++ {
		b.Kinds = append(b.Kinds, api.ButtKind{Long: 2 * long, Cost: 33 * long, Many: to(10, 12)})
	}
	b.Notes = []api.ButtNote{note(to(0, 36), 0, 1, 2), note(to(20, 24), 0, 1), note(to(20, 24), 1, 2)}
	if n, s := butt.Layouts(b); n != 1<<15 || s != api.Clear {
		t.Error(n, s)
	}
	if n, s := butt.Boats(b); n != 27 || s != api.Clear {
		t.Error(n, s)
	}
	if kind, left, s := butt.Ask(b); kind != 0 || left != 9 || s != api.Clear {
		t.Error(kind, left, s)
	}
	if l, n, found, s := butt.Fewest(b); !same(l, lay(nil, nil, nil)) || n != 3 || !found || s != api.Clear {
		t.Error(l, n, found, s)
	}
	// nine boards of 2 cost as much as three of 6
	if l, n, found, s := butt.Cheapest(b); !same(l, lay(nil, nil, nil)) || n != 297 || !found || s != api.Clear {
		t.Error(l, n, found, s)
	}
	b.Kinds[0].Cost = 32
	// of 2 there are 10 at least, in each boat
	if l, n, found, s := butt.Cheapest(b); !same(l, lay(on(2, 4), on(2, 4), on(2, 4))) || n != 9*32 || !found || s != api.Clear {
		t.Error(l, n, found, s)
	}
	all := on(1, 2, 3, 4, 5)
	if sure, s := butt.Can(b, lay(all, all, all)); sure != api.Yes || s != api.Clear {
		t.Error(sure, s)
	}
	if l, n, found, s := butt.Shift(b, lay(all, all, nil)); !same(l, lay(all, all, nil)) || n != 0 || !found || s != api.Clear {
		t.Error(l, n, found, s)
	}
	b.Gap, b.Between = 1, 2
	if l, n, found, s := butt.Shift(b, lay(all, nil, all)); !same(l, lay(nil, nil, all)) || n != 5 || !found || s != api.Clear {
		t.Error(l, n, found, s)
	}
}

// Whatever boards there really are, if the notes are right, they are a boat, and all that is told is so.
func TestP6_6WhateverThereIs(t *testing.T) {
	tried := 0
	eachBook(t, 250, func(t *testing.T, b api.ButtBook, o *oracle, r *rand.Rand) {
		for range 3 {
			x := clone(b)
			x.Notes = nil
			var numbers []int
			for _, k := range b.Kinds {
				numbers = append(numbers, some(r, k.Many))
			}
			for range r.Intn(api.MaxButtNotes + 1) {
				x.Notes = append(x.Notes, noteAbout(r, numbers))
			}
			tried++
			tellsRight(t, x, numbers, randomLayout(r, x), o.anyLayout(r))
		}
	})
	if tried < 700 {
		t.Error("too few boats", tried)
	}
}

// tellsRight tests that all that a book tells of some layouts is so of numbers of boards that are one of its boats.
func tellsRight(t *testing.T, b api.ButtBook, numbers []int, layouts ...[][]int) {
	t.Helper()
	if is, s := butt.IsBoat(b, numbers); !is || s != api.Clear {
		t.Error("IsBoat", b, numbers, is, s)
	}
	if n, s := butt.Boats(b); n < 1 || s != api.Clear {
		t.Error("Boats", b, numbers, n, s)
	}
	for kind, n := range numbers {
		if list, s := butt.Numbers(b, kind); !slices.Contains(list, n) || s != api.Clear {
			t.Error("Numbers", b, numbers, kind, list, s)
		}
	}
	if list, s := butt.Clash(b); len(list) > 0 || s != api.Clear {
		t.Error("Clash", b, numbers, list, s)
	}
	for _, l := range layouts {
		_, _, found, _ := butt.Take(b, l, numbers)
		if sure, s := butt.Can(b, l); sure == api.Yes && !found || sure == api.No && found || s != api.Clear {
			t.Error("Can", b, numbers, l, sure, s)
		}
		if now, _, really, s := butt.Shift(b, l); really {
			if _, _, found, _ := butt.Take(b, now, numbers); !found || s != api.Clear {
				t.Error("Shift", b, numbers, l, now)
			}
		}
	}
	if l, planks, really, s := butt.Fewest(b); really {
		if taken, _, found, _ := butt.Take(b, l, numbers); !found || sum(taken) != planks || s != api.Clear {
			t.Error("Fewest", b, numbers, l, planks)
		}
	}
	if l, most, really, s := butt.Cheapest(b); really {
		if _, cost, found, _ := butt.Take(b, l, numbers); !found || cost > most || s != api.Clear {
			t.Error("Cheapest", b, numbers, l, most, cost)
		}
	}
}

// A number is told just if a boat has it; what is Open is so in one boat, and is not in another one.
func TestP6_7NoOthers(t *testing.T) {
	tried, sures := 0, map[api.Sure]int{}
	eachBook(t, 500, func(t *testing.T, b api.ButtBook, o *oracle, r *rand.Rand) {
		if len(o.boats) == 0 {
			return
		}
		for kind := range b.Kinds {
			list, _ := butt.Numbers(b, kind)
			for n := range api.MaxButtMany + 1 {
				tried++
				_, s := butt.Count(b, kind, one(n))
				if has := slices.Contains(list, n); has != (o.count(kind, n) > 0) || has != (s == api.Clear) {
					t.Error("Numbers", kind, n, list, s)
				}
			}
		}
		for range 3 {
			l, can := o.anyLayout(r), 0
			for _, boat := range o.boats {
				if _, _, found, _ := butt.Take(b, l, boat); found {
					can++
				}
			}
			sure, _ := butt.Can(b, l)
			sures[sure]++
			if (sure == api.Yes) != (can == len(o.boats)) || (sure == api.No) != (can == 0) {
				t.Error("Can", l, sure, can)
			}
		}
	})
	if tried < 1000 || sures[api.Open] < 50 {
		t.Error("the books are too much alike", tried, sures)
	}
}
