package butt_test

import (
	"math/rand"
	"reflect"
	"slices"
	"testing"

	"ribband/api"
	"ribband/butt"
)

func TestP6_3Examples(t *testing.T) {
	b, want := parse(t, textP), lay(on(2), on(4))
	if l, n, found, s := butt.Fewest(b); !same(l, want) || n != 4 || !found || s != api.Clear {
		t.Error(l, n, found, s)
	}
	if l, n, found, s := butt.Cheapest(b); !same(l, want) || n != 8 || !found || s != api.Clear {
		t.Error(l, n, found, s)
	}
	if l, n, found, s := butt.Shift(b, lay(on(3), nil)); !same(l, want) || n != 3 || !found || s != api.Clear {
		t.Error(l, n, found, s)
	}
}

func TestP6_3Fewest(t *testing.T) {
	for i, x := range []struct {
		text   string
		layout [][]int
		planks int
	}{
		{textP, lay(on(2), on(4)), 4},
		{textP + "note 0 3\n", lay(on(2), on(4)), 4},
		{textP + "kind 6 99 1\n", lay(nil, on(2)), 3},
		{textP + "kind 6 99 0..1\n", lay(on(2), on(4)), 4}, // perhaps there is a board that is so long
		{textP + "kind 6 99 2\n", lay(nil, nil), 2},
		{textO, nil, 0}, // no layout surely can
		{textO + "note 0+1 4\n", lay(on(2), on(4)), 4},
		{textN, nil, 0},
		{textE, lay(nil), 1},
		{"butt 4 1 0 0 1\nkind 1 0 2\nkind 3 0 2\n", lay(on(1)), 2},
		{"butt 4 1 0 0 1\nkind 1 0 2\nkind 2 0 2\n", lay(on(2)), 2}, // 1 would need 3
		{"butt 4 1 0 0 1\nkind 1 0 2\nkind 2 0 1\n", lay(on(1, 2)), 3},
		{"butt 4 1 0 0 1\nkind 1 0 3..4\nkind 2 0 0..1\n", nil, 0},
		{"butt 4 1 0 0 1\nkind 1 0 3..4\nkind 2 0 0..1\nnote 0+1 4\n", lay(on(1, 2, 3)), 4}, // in one boat 1, 2 would do
		{"butt 4 1 0 0 1\nkind 1 0 4\nkind 2 0 0..1\n", lay(on(1, 2, 3)), 4},
		{"butt 3 3 1 0 1\nkind 2 0 6\n", lay(on(1), on(2), on(1)), 6},
		{"butt 3 3 1 2 1\nkind 2 0 6\n", nil, 0}, // each strake needs a butt, on 1 or 2
		{"butt 3 3 1 2 1\nkind 2 0 6\nkind 3 0 1\n", lay(nil, on(1), on(2)), 5},
	} {
		b := parse(t, x.text)
		if l, n, found, s := butt.Fewest(b); !same(l, x.layout) || n != x.planks || found != (x.planks > 0) || s != api.Clear {
			t.Error(i, l, n, found, s)
		}
	}
}

func TestP6_3Cheapest(t *testing.T) {
	for i, x := range []struct {
		text   string
		layout [][]int
		cost   int
		found  bool
	}{
		{textP, lay(on(2), on(4)), 8, true},
		{textP + "kind 6 1 2\n", lay(nil, nil), 2, true}, // long boards can be cheap
		{textP + "kind 6 5 2\n", lay(on(2), on(4)), 8, true},
		{textP + "kind 6 4 2\n", lay(nil, nil), 8, true}, // of several the least one
		{textP + "kind 6 4 1..2\n", lay(nil, on(2)), 8, true},
		{textO, nil, 0, false},
		{textO + "note 0+1 4\n", lay(on(2), on(4)), 10, true}, // of 8 and 10 in two boats
		{textN, nil, 0, false},
		{textE, lay(nil), 9, true}, // three short boards and the long one would cost 12 in the worst boat, four short ones 4 in the other one
		{"butt 4 1 0 0 1\nkind 1 1 4\nkind 4 9 1\n", lay(on(1, 2, 3)), 4, true},
		{"butt 4 1 0 0 1\nkind 1 1 3..4\nkind 4 6 2\n", lay(nil), 6, true},
		{"butt 4 1 0 0 1\nkind 1 0 3..4\nkind 2 2 1..2\nkind 3 9 1\n", lay(on(1, 2)), 2, true},
		{"butt 4 1 0 0 1\nkind 1 0 0\nkind 2 2 1..2\nkind 3 9 1\n", lay(on(1)), 11, true},
		{"butt 4 1 0 0 1\nkind 1 0 0\nkind 2 2 2\nkind 3 9 1\n", lay(on(2)), 4, true},
		{"butt 4 1 0 0 1\nkind 4 0 1\n", lay(nil), 0, true}, // what costs nothing is found, too
	} {
		b := parse(t, x.text)
		if l, n, found, s := butt.Cheapest(b); !same(l, x.layout) || n != x.cost || found != x.found || s != api.Clear {
			t.Error(i, l, n, found, s)
		}
	}
}

func TestP6_3Shift(t *testing.T) {
	const rich = "butt 6 2 2 1 2\nkind 6 1 12\n"
	for i, x := range []struct {
		text       string
		from, want [][]int
		moved      int
		found      bool
	}{
		{textP, lay(on(4), on(2)), lay(on(4), on(2)), 0, true},
		{textP, lay(nil, nil), lay(on(2), on(4)), 2, true}, // of several the least one
		{textP, lay(on(4), on(4)), lay(on(2), on(4)), 2, true},
		{textP, lay(on(2), on(2)), lay(on(2), on(4)), 2, true},
		{textP, lay(on(4), nil), lay(on(4), on(2)), 1, true},
		{textP, lay(on(1, 2, 3, 4, 5), on(1, 2, 3, 4, 5)), lay(on(2), on(4)), 8, true},
		{textP, lay(on(3, 4), on(1, 2)), lay(on(4), on(2)), 2, true},
		{textP, lay(on(3), on(3)), lay(on(2), on(4)), 4, true}, // of a butt that is moved both count
		{textO, lay(on(2), on(4)), nil, 0, false},
		{textO + "note 0+1 4\n", lay(on(2), on(4)), lay(on(2), on(4)), 0, true},
		{textN, lay(nil, nil), nil, 0, false},
		{rich, lay(on(2), on(2)), lay(nil, on(2)), 1, true},
		{rich, lay(on(2, 4), on(2)), lay(on(2, 4), nil), 1, true},
		{rich, lay(on(2), on(3)), lay(nil, on(3)), 1, true},
		{rich, lay(on(1), on(3)), lay(nil, on(3)), 1, true},
		{rich, lay(on(1), on(5)), lay(nil, nil), 2, true},
		{rich, lay(on(2, 3, 4), nil), lay(on(2, 4), nil), 1, true},
		{textE, lay(on(2)), lay(nil), 1, true}, // two planks can not be had
	} {
		b := parse(t, x.text)
		if l, n, found, s := butt.Shift(b, x.from); !same(l, x.want) || n != x.moved || found != x.found || s != api.Clear {
			t.Error(i, l, n, found, s)
		}
	}
}

func TestP6_3Everything(t *testing.T) {
	many, moved, dear := map[bool]int{}, map[bool]int{}, 0
	eachBook(t, 1200, func(t *testing.T, b api.ButtBook, o *oracle, r *rand.Rand) {
		want := o.snag()
		isBest := func(what string, x found) func(l [][]int, n int, found bool, s api.Snag) {
			return func(l [][]int, n int, found bool, s api.Snag) {
				if !same(l, x.layout) || n != x.much || found != x.found || s != want {
					t.Error(what, l, n, found, s, x)
				}
			}
		}
		few, cheap := o.fewest(), o.cheapest()
		many[few.found]++
		if few.found && !same(few.layout, cheap.layout) {
			dear++
		}
		isBest("Fewest", few)(butt.Fewest(b))
		isBest("Cheapest", cheap)(butt.Cheapest(b))
		for range 3 {
			from := o.anyLayout(r)
			near := o.shift(from)
			if near.found {
				moved[near.much > 0]++
			}
			isBest("Shift", near)(butt.Shift(b, from))
		}
	})
	if many[true] < 300 || many[false] < 300 || moved[true] < 200 || moved[false] < 100 || dear < 40 {
		t.Error("the books are too much alike", many, moved, dear)
	}
}

// The layouts that are found surely can be planked; none that surely can has fewer planks, costs less in its worst boat, or is nearer.
func TestP6_9Best(t *testing.T) {
	tried := 0
	eachBook(t, 400, func(t *testing.T, b api.ButtBook, o *oracle, r *rand.Rand) {
		from := o.anyLayout(r)
		fewest, planks, found, s := butt.Fewest(b)
		cheapest, cost, too, _ := butt.Cheapest(b)
		shifted, moved, all, _ := butt.Shift(b, from)
		if too != found || all != found {
			t.Error("not all of them are found", found, too, all)
		}
		if found {
			for _, l := range [][][]int{fewest, cheapest, shifted} {
				if sure, _ := butt.Can(b, l); sure != api.Yes {
					t.Error("it can not surely be planked", l, sure)
				}
			}
			if len(allPlanks(b, fewest)) != planks || worst(t, b, o, cheapest) != cost || changes(from, shifted) != moved {
				t.Error("not as many as are told", fewest, planks, cheapest, cost, shifted, moved)
			}
		}
		for _, l := range o.layouts {
			if sure, _ := butt.Can(b, l); sure != api.Yes {
				continue
			}
			tried++
			if !found || s != api.Clear {
				t.Error("it is not found", l)
				continue
			}
			for _, x := range []struct {
				what       string
				best       [][]int
				least, now int
			}{
				{"Fewest", fewest, planks, len(allPlanks(b, l))},
				{"Cheapest", cheapest, cost, worst(t, b, o, l)},
				{"Shift", shifted, moved, changes(from, l)},
			} {
				if x.now < x.least || x.now == x.least && compare(l, x.best) < 0 {
					t.Error(x.what, "there is a better one", l, x)
				}
			}
		}
	})
	if tried < 500 {
		t.Error("too few layouts", tried)
	}
}

// worst returns what a layout costs in the boat in which it costs the most.
func worst(t *testing.T, b api.ButtBook, o *oracle, l [][]int) (most int) {
	t.Helper()
	for _, boat := range o.boats {
		_, cost, found, s := butt.Take(b, l, boat)
		if !found || s != api.Clear {
			t.Error("Take", l, boat, found, s)
		}
		most = max(most, cost)
	}
	return most
}

// easier returns books that ask for less, or have longer boards, or more of them.
func easier(b api.ButtBook) (books []api.ButtBook) {
	add := func(is bool, change func(x *api.ButtBook)) {
		if is {
			x := clone(b)
			change(&x)
			books = append(books, x)
		}
	}
	add(b.Gap > 0, func(x *api.ButtBook) { x.Gap-- })
	add(b.Between > 0, func(x *api.ButtBook) { x.Between-- })
	add(b.Least > 1, func(x *api.ButtBook) { x.Least-- })
	for kind, k := range b.Kinds {
		above := api.MaxButtLong + 1
		if kind+1 < len(b.Kinds) {
			above = b.Kinds[kind+1].Long
		}
		add(k.Long+1 < above, func(x *api.ButtBook) { x.Kinds[kind].Long++ })
		more := func(x *api.Span) { *x = to(x.Low+1, x.High+1) }
		add(k.Many.High < api.MaxButtMany, func(x *api.ButtBook) { // each boat has one more
			more(&x.Kinds[kind].Many)
			for i, n := range x.Notes {
				if slices.Contains(n.Kinds, kind) {
					more(&x.Notes[i].Sum)
				}
			}
		})
	}
	return books
}

// Rules that ask for less, longer boards and more of them never make it harder.
func TestP6_11Easier(t *testing.T) {
	tried := 0
	eachBook(t, 300, func(t *testing.T, b api.ButtBook, o *oracle, r *rand.Rand) {
		for _, x := range easier(b) {
			if butt.CheckBook(x) != api.Clear {
				continue
			}
			tried++
			notHarder(t, b, x, o, r)
		}
	})
	if tried < 1000 {
		t.Error("too few books", tried)
	}
}

// notHarder tests that all that can be by a book can be by an easier one.
func notHarder(t *testing.T, b, x api.ButtBook, o *oracle, r *rand.Rand) {
	t.Helper()
	many, _ := butt.Layouts(b)
	if n, _ := butt.Layouts(x); n < many {
		t.Error("Layouts", x, many, n)
	}
	for range 3 {
		l, numbers := o.anyLayout(r), randomNumbers(r, b)
		if is, _ := butt.Keeps(b, l); is {
			if now, _ := butt.Keeps(x, l); !now {
				t.Error("Keeps", x, l)
			}
		}
		if _, cost, found, _ := butt.Take(b, l, numbers); found {
			more := slices.Clone(numbers)
			more[r.Intn(len(more))]++
			for _, list := range [][]int{numbers, more} {
				if _, now, too, s := butt.Take(x, l, list); s != api.Range && (!too || now > cost) {
					t.Error("Take", x, l, list, cost, now, too)
				}
			}
		}
		// No is harder than Open, and that than Yes
		ease := []int{api.No: 0, api.Open: 1, api.Yes: 2}
		sure, _ := butt.Can(b, l)
		if now, s := butt.Can(x, l); len(o.boats) > 0 && (ease[now] < ease[sure] || s != api.Clear) {
			t.Error("Can", x, l, sure, now)
		}
		notWorse(t, "Shift", x)(butt.Shift(b, l))(butt.Shift(x, l))
	}
	notWorse(t, "Fewest", x)(butt.Fewest(b))(butt.Fewest(x))
	notWorse(t, "Cheapest", x)(butt.Cheapest(b))(butt.Cheapest(x))
}

type bestOf func(l [][]int, n int, found bool, s api.Snag)

// notWorse tests that what is found of a book is not worse than what was found before.
func notWorse(t *testing.T, what string, x api.ButtBook) func(l [][]int, n int, found bool, s api.Snag) bestOf {
	return func(l [][]int, n int, found bool, s api.Snag) bestOf {
		return func(now [][]int, m int, too bool, again api.Snag) {
			t.Helper()
			if found && (!too || m > n || again != api.Clear) {
				t.Error(what, x, l, n, now, m, too, again)
			}
		}
	}
}

// turned returns a layout as it is read from the other end, and from the last strake.
func turned(b api.ButtBook, l [][]int) [][]int {
	now := slices.Clone(l)
	slices.Reverse(now)
	for strake := range now {
		var list []int
		for _, frame := range now[strake] {
			list = append(list, b.Frames-frame)
		}
		slices.Reverse(list)
		now[strake] = list
	}
	return now
}

// Layouts that are turned keep the same rules, and are planked from the same boards.
func TestP6_12Turned(t *testing.T) {
	kept, taken := 0, 0
	eachBook(t, 500, func(t *testing.T, b api.ButtBook, o *oracle, r *rand.Rand) {
		for range 4 {
			l, numbers := o.anyLayout(r), randomNumbers(r, b)
			now := turned(b, l)
			is, _ := butt.Keeps(b, l)
			if too, s := butt.Keeps(b, now); too != is || s != api.Clear {
				t.Error("Keeps", l, now, is, too, s)
			}
			planks, _ := butt.Planks(b, l)
			slices.Reverse(planks)
			for strake := range planks {
				slices.Reverse(planks[strake])
			}
			if too, s := butt.Planks(b, now); !same(too, planks) || s != api.Clear {
				t.Error("Planks", l, now, planks, too, s)
			}
			list, cost, found, _ := butt.Take(b, l, numbers)
			if other, n, too, s := butt.Take(b, now, numbers); !slices.Equal(other, list) || n != cost || too != found || s != api.Clear {
				t.Error("Take", l, now, list, cost, found, other, n, too, s)
			}
			sure, want := butt.Can(b, l)
			if too, s := butt.Can(b, now); too != sure || s != want {
				t.Error("Can", l, now, sure, too, s)
			}
			_, moved, really, _ := butt.Shift(b, l)
			if _, n, too, s := butt.Shift(b, now); n != moved || too != really || s != want {
				t.Error("Shift", l, now, moved, really, n, too, s)
			}
			if is {
				kept++
			}
			if found {
				taken++
			}
		}
	})
	if kept < 500 || taken < 200 {
		t.Error("the books are too much alike", kept, taken)
	}
}

// The order of notes changes no more than indexes.
func TestP6_12Notes(t *testing.T) {
	clashes := map[int]int{}
	eachBook(t, 600, func(t *testing.T, b api.ButtBook, o *oracle, r *rand.Rand) {
		order := r.Perm(len(b.Notes))
		x := clone(b)
		for i, was := range order {
			x.Notes[i] = b.Notes[was]
		}
		n := likelyNews(r, b)
		was, now := calls(b, n), calls(x, n)
		for i, c := range was {
			tellsNotes := slices.Contains([]string{"Rotten", "Clash", "Count", "Note", "Print"}, c.name)
			if c.snag() != now[i].snag() || !tellsNotes && !reflect.DeepEqual(c, now[i]) {
				t.Error(x, c, now[i])
			}
		}
		list, _ := butt.Clash(b)
		other, s := butt.Clash(x)
		clashes[len(list)]++
		if len(other) != len(list) || s != api.Clear {
			t.Error("Clash", x, list, other)
		}
		alone := x
		alone.Notes = nil
		for _, i := range other {
			alone.Notes = append(alone.Notes, b.Notes[order[i]])
		}
		if n, _ := butt.Boats(alone); len(other) > 0 && n > 0 {
			t.Error("they do not clash", x, other)
		}
	})
	if clashes[0] < 200 || clashes[1] < 50 || clashes[2] < 20 {
		t.Error("the books are too much alike", clashes)
	}
}
