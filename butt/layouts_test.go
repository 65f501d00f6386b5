package butt_test

import (
	"math/rand"
	"slices"
	"testing"

	"ribband/api"
	"ribband/butt"
)

func TestP6_1Examples(t *testing.T) {
	b := parse(t, textP)
	if p, s := butt.Planks(b, lay(on(2), on(4))); !same(p, lay(on(2, 4), on(4, 2))) || s != api.Clear {
		t.Error(p, s)
	}
	if is, s := butt.Keeps(b, lay(on(2), on(4))); !is || s != api.Clear {
		t.Error(is, s)
	}
	if is, s := butt.Keeps(b, lay(on(2), on(3))); is || s != api.Clear {
		t.Error(is, s)
	}
	if n, s := butt.Layouts(b); n != 11 || s != api.Clear {
		t.Error(n, s)
	}
	if l, n, found, s := butt.Take(b, lay(on(2), on(4)), []int{2, 3}); !slices.Equal(l, []int{2, 2}) || n != 8 || !found || s != api.Clear {
		t.Error(l, n, found, s)
	}
	if l, n, found, s := butt.Take(b, lay(on(2), on(4)), []int{1, 3}); !slices.Equal(l, []int{1, 3}) || n != 10 || !found || s != api.Clear {
		t.Error(l, n, found, s)
	}
	if l, n, found, s := butt.Take(b, lay(on(3), nil), []int{3, 3}); len(l) > 0 || n != 0 || found || s != api.Clear {
		t.Error(l, n, found, s)
	}
}

func TestP6_1CheckBook(t *testing.T) {
	notes := func(list ...api.ButtNote) func(b *api.ButtBook) {
		return func(b *api.ButtBook) { b.Notes = list }
	}
	kind := func(long, cost int, many api.Span) func(b *api.ButtBook) {
		return func(b *api.ButtBook) { b.Kinds[1] = api.ButtKind{Long: long, Cost: cost, Many: many} }
	}
	for i, x := range []struct {
		change func(b *api.ButtBook)
		want   api.Snag
	}{
		{func(b *api.ButtBook) {}, api.Clear},
		{func(b *api.ButtBook) { b.Frames = 0 }, api.Range},
		{func(b *api.ButtBook) { b.Frames = 1 }, api.Clear},
		{func(b *api.ButtBook) { b.Frames = 6 }, api.Clear},
		{func(b *api.ButtBook) { b.Frames = 7 }, api.Range},
		{func(b *api.ButtBook) { b.Frames = least }, api.Range},
		{func(b *api.ButtBook) { b.Frames = most }, api.Range},
		{func(b *api.ButtBook) { b.Strakes = 0 }, api.Range},
		{func(b *api.ButtBook) { b.Strakes = 1 }, api.Clear},
		{func(b *api.ButtBook) { b.Strakes = 3 }, api.Clear},
		{func(b *api.ButtBook) { b.Strakes = 4 }, api.Range},
		{func(b *api.ButtBook) { b.Strakes = most }, api.Range},
		{func(b *api.ButtBook) { b.Gap = -1 }, api.Range},
		{func(b *api.ButtBook) { b.Gap = 0 }, api.Clear},
		{func(b *api.ButtBook) { b.Gap = 5 }, api.Clear},
		{func(b *api.ButtBook) { b.Gap = 6 }, api.Range},
		{func(b *api.ButtBook) { b.Between = -1 }, api.Range},
		{func(b *api.ButtBook) { b.Between = 0 }, api.Clear},
		{func(b *api.ButtBook) { b.Between = 2 }, api.Clear},
		{func(b *api.ButtBook) { b.Between = 3 }, api.Range},
		{func(b *api.ButtBook) { b.Least = 0 }, api.Range},
		{func(b *api.ButtBook) { b.Least = 1 }, api.Clear},
		{func(b *api.ButtBook) { b.Least = 6 }, api.Clear},
		{func(b *api.ButtBook) { b.Least = 7 }, api.Range},
		{func(b *api.ButtBook) { b.Least, b.Frames = 6, 1 }, api.Clear}, // even if no plank can be so long
		{func(b *api.ButtBook) { b.Kinds = nil }, api.Many},
		{func(b *api.ButtBook) { b.Kinds = b.Kinds[:1] }, api.Clear},
		{func(b *api.ButtBook) { b.Kinds = append(b.Kinds, api.ButtKind{Long: 9}) }, api.Clear},
		{func(b *api.ButtBook) { b.Kinds = make([]api.ButtKind, 4) }, api.Many},
		{func(b *api.ButtBook) { b.Kinds = make([]api.ButtKind, 3) }, api.Range},
		{kind(3, 0, to(0, 0)), api.Clear},
		{kind(9, 99, to(10, 12)), api.Clear},
		{kind(10, 0, to(0, 0)), api.Range},
		{kind(0, 0, to(0, 0)), api.Range},
		{kind(least, 0, to(0, 0)), api.Range},
		{kind(3, -1, to(0, 0)), api.Range},
		{kind(3, 100, to(0, 0)), api.Range},
		{kind(3, 0, to(-1, 0)), api.Range},
		{kind(3, 0, to(1, 0)), api.Range},
		{kind(3, 0, to(0, 2)), api.Clear},
		{kind(3, 0, to(0, 3)), api.Range},
		{kind(3, 0, to(12, 13)), api.Range},
		{kind(3, 0, to(least, most)), api.Range},
		{kind(3, 0, to(most, least)), api.Range},
		{kind(2, 0, to(0, 0)), api.Turned},
		{kind(1, 99, to(12, 12)), api.Turned},
		{kind(2, 100, to(0, 0)), api.Range}, // of one kind, this comes first
		{notes(note(to(0, 36), 0, 1)), api.Clear},
		{notes(note(one(0), 1)), api.Clear},
		{notes(make([]api.ButtNote, 4)...), api.Many},
		{notes(make([]api.ButtNote, 3)...), api.Many}, // none of them has kinds
		{notes(note(one(3), 0), note(one(3), 0), note(one(3), 0)), api.Clear},
		{notes(note(one(3), 2)), api.Absent},
		{notes(note(one(3), -1)), api.Absent},
		{notes(note(one(3), 1, most)), api.Absent},
		{notes(note(one(3), 1, 1)), api.Turned},
		{notes(note(one(3), 1, 0)), api.Turned},
		{notes(note(to(0, 37), 0)), api.Range},
		{notes(note(to(-1, 3), 0)), api.Range},
		{notes(note(to(4, 3), 0)), api.Range},
		{notes(note(to(4, 3), 1, 0)), api.Turned}, // its kinds come before its sum
		{notes(note(to(4, 3), 1, 0, 2)), api.Turned},
		{notes(note(to(4, 3), 1, 2, 0)), api.Absent},
		{notes(note(to(4, 3), 0), note(one(3))), api.Range}, // the first note that is wrong decides
		{notes(note(one(3), 0), note(one(3)), note(one(3), 2)), api.Many},
	} {
		b := parse(t, textP)
		x.change(&b)
		if s := butt.CheckBook(b); s != x.want {
			t.Error(i, s)
		}
	}
}

// Snags of a book come in the order of the chapter.
func TestP6_1CheckBookOrder(t *testing.T) {
	b := parse(t, textP)
	b.Notes = []api.ButtNote{{}, {}, {}, {}}
	b.Kinds = append(b.Kinds, api.ButtKind{Long: 4, Many: to(1, 0)}, api.ButtKind{})
	b.Least = 9
	for i, x := range []struct {
		mend func()
		want api.Snag
	}{
		{func() {}, api.Range},
		{func() { b.Least = 2 }, api.Many},
		{func() { b.Kinds = b.Kinds[:3] }, api.Range},
		{func() { b.Kinds[2].Many = one(1) }, api.Turned},
		{func() { b.Kinds[2].Long = 5 }, api.Many},
		{func() { b.Notes[0] = note(to(4, 3), 3); b.Notes = b.Notes[:2] }, api.Absent},
		{func() { b.Notes[0].Kinds = on(2, 1) }, api.Turned},
		{func() { b.Notes[0].Kinds = on(1, 2) }, api.Range},
		{func() { b.Notes[0].Sum = one(4) }, api.Many},
		{func() { b.Notes = b.Notes[:1] }, api.Clear},
	} {
		x.mend()
		if s := butt.CheckBook(b); s != x.want {
			t.Error(i, s)
		}
	}
}

func TestP6_1LayoutSnags(t *testing.T) {
	const single = "butt 1 1 0 0 1\nkind 1 0 1\n"
	for i, x := range []struct {
		text   string
		layout [][]int
		want   api.Snag
	}{
		{textP, lay(on(1, 2, 3, 4, 5), nil), api.Clear},
		{textP, lay(nil, on()), api.Clear},
		{textP, nil, api.Many},
		{textP, lay(nil), api.Many},
		{textP, lay(nil, nil, nil), api.Many},
		{textP, lay(on(9)), api.Many},
		{textP, lay(on(0), nil), api.Absent},
		{textP, lay(on(6), nil), api.Absent},
		{textP, lay(nil, on(-1)), api.Absent},
		{textP, lay(nil, on(least)), api.Absent},
		{textP, lay(nil, on(1, most)), api.Absent},
		{textP, lay(on(2, 2), nil), api.Turned},
		{textP, lay(on(2, 1), nil), api.Turned},
		{textP, lay(on(2, 1, 9), nil), api.Turned}, // the first butt that is wrong decides
		{textP, lay(on(2, 9, 1), nil), api.Absent},
		{textP, lay(on(2, 1), on(9)), api.Turned},
		{textP, lay(on(2), on(9)), api.Absent},
		{textP, lay(on(5, 0), nil), api.Absent}, // of one butt, this comes first
		{single, lay(nil), api.Clear},
		{single, lay(on(1)), api.Absent},
		{single, lay(on(0)), api.Absent},
	} {
		b := parse(t, x.text)
		if p, s := butt.Planks(b, x.layout); s != x.want || s != api.Clear && len(p) > 0 {
			t.Error(i, "Planks", p, s)
		}
		if is, s := butt.Keeps(b, x.layout); s != x.want || s != api.Clear && is {
			t.Error(i, "Keeps", is, s)
		}
		if l, n, found, s := butt.Take(b, x.layout, slices.Repeat([]int{3}, len(b.Kinds))); s != x.want || s != api.Clear && (len(l) > 0 || n != 0 || found) {
			t.Error(i, "Take", l, n, found, s)
		}
		if sure, s := butt.Can(b, x.layout); s != x.want || s != api.Clear && sure != api.Open {
			t.Error(i, "Can", sure, s)
		}
		if l, n, found, s := butt.Shift(b, x.layout); s != x.want || s != api.Clear && (len(l) > 0 || n != 0 || found) {
			t.Error(i, "Shift", l, n, found, s)
		}
	}
}

func TestP6_1Planks(t *testing.T) {
	for i, x := range []struct {
		text         string
		layout, want [][]int
	}{
		{textP, lay(nil, nil), lay(on(6), on(6))},
		{textP, lay(on(1, 2, 3, 4, 5), on(3)), lay(on(1, 1, 1, 1, 1, 1), on(3, 3))},
		{textP, lay(on(2), on(2, 3)), lay(on(2, 4), on(2, 1, 3))}, // whether it keeps the rules or not
		{textP, lay(on(5), on(1)), lay(on(5, 1), on(1, 5))},
		{textE, lay(on(1)), lay(on(1, 3))},
		{"butt 1 3 5 2 6\nkind 1 0 1\n", lay(nil, nil, nil), lay(on(1), on(1), on(1))},
		{"butt 5 3 0 0 1\nkind 1 0 1\n", lay(on(2), nil, on(1, 4)), lay(on(2, 3), on(5), on(1, 3, 1))},
	} {
		if p, s := butt.Planks(parse(t, x.text), x.layout); !same(p, x.want) || s != api.Clear {
			t.Error(i, p, s)
		}
	}
}

func TestP6_1Keeps(t *testing.T) {
	const kind = "kind 9 0 12\n"
	for i, x := range []struct {
		head   string // frames, strakes, gap, between, least
		layout [][]int
		want   bool
	}{
		{"6 2 2 1 2", lay(nil, nil), true},
		{"6 2 2 1 2", lay(on(2, 4), nil), true},
		{"6 2 2 1 2", lay(on(2), on(2)), false},
		{"6 2 2 1 2", lay(on(2), on(3)), false},
		{"6 2 2 1 2", lay(on(4), on(2)), true},
		{"6 2 2 1 2", lay(on(4), on(3)), false},
		{"6 2 2 1 2", lay(on(2, 4), on(2)), false}, // one butt of several is enough
		{"6 2 2 1 2", lay(on(4), on(2, 4)), false},
		// planks that are too short: at the beginning, in between, at the end
		{"6 1 0 0 2", lay(on(1)), false},
		{"6 1 0 0 2", lay(on(2, 3)), false},
		{"6 1 0 0 2", lay(on(5)), false},
		{"6 1 0 0 3", lay(on(3)), true},
		{"6 1 0 0 4", lay(on(3)), false},
		{"6 1 0 0 6", lay(nil), true},
		{"5 1 0 0 6", lay(nil), false}, // even without a butt
		{"6 3 0 0 2", lay(nil, nil, on(1)), false},
		// gaps are those of neighbours
		{"6 2 0 0 1", lay(on(3), on(3)), true},
		{"6 2 1 0 1", lay(on(3), on(3)), false},
		{"6 2 1 0 1", lay(on(3), on(4)), true},
		{"6 2 4 0 1", lay(on(1), on(5)), true},
		{"6 2 5 0 1", lay(on(1), on(5)), false},
		{"6 2 5 0 1", lay(on(1, 5), nil), true}, // butts of one strake need not be apart
		{"6 3 5 0 1", lay(on(1), nil, on(2)), true},
		{"6 3 2 0 1", lay(on(1), on(3), on(4)), false},
		{"6 3 2 0 1", lay(on(1), on(4), on(1)), true},
		// strakes between butts on one frame
		{"6 2 0 1 1", lay(on(3), on(3)), false},
		{"6 3 0 1 1", lay(on(3), nil, on(3)), true},
		{"6 3 0 2 1", lay(on(3), nil, on(3)), false},
		{"6 3 0 2 1", lay(on(3), nil, on(4)), true},
		{"6 3 0 2 1", lay(on(3), on(1), on(2, 3)), false},
		{"6 3 0 1 1", lay(nil, on(5), on(5)), false},
		{"6 3 2 1 1", lay(on(3), on(5), on(3)), true},
		{"6 3 1 2 1", lay(on(3), on(5), on(3)), false},
	} {
		b := parse(t, "butt "+x.head+"\n"+kind)
		if is, s := butt.Keeps(b, x.layout); is != x.want || s != api.Clear {
			t.Error(i, is, s)
		}
		if c := keeps(b, x.layout); c != x.want {
			t.Error(i, "the oracle is wrong", c)
		}
	}
}

func TestP6_1Layouts(t *testing.T) {
	for text, want := range map[string]int{
		textP:                            11,
		textO:                            11, // boards and notes make no difference
		textC:                            11,
		textN:                            0,
		textE:                            8,
		"butt 1 3 5 2 1\nkind 1 0 1\n":   1,
		"butt 1 3 5 2 2\nkind 1 0 1\n":   0,
		"butt 2 3 0 0 1\nkind 1 0 1\n":   8,
		"butt 2 3 1 0 1\nkind 1 0 1\n":   5,
		"butt 2 3 0 1 1\nkind 1 0 1\n":   5,
		"butt 2 3 0 2 1\nkind 1 0 1\n":   4,
		"butt 6 1 0 0 2\nkind 1 0 1\n":   5, // none, 2, 2 4, 3, 4
		"butt 6 1 5 2 3\nkind 1 0 1\n":   2,
		"butt 6 3 0 0 1\nkind 1 0 1\n":   1 << 15,
		"butt 6 3 0 0 6\nkind 9 0 12\n":  1,
		"butt 3 2 1 0 1\nkind 1 0 1\n":   9,
		"butt 4 2 2 0 1\nkind 1 0 0\n":   17,
		"butt 6 2 5 2 1\nkind 1 0 1\n":   63, // butts in one of both strakes only
		"butt 6 2 5 0 1\nkind 1 0 1\n":   63,
		"butt 6 2 4 0 1\nkind 1 0 1\n":   65, // and 1 / 5, 5 / 1
		"butt 6 1 0 0 1\nkind 1 99 12\n": 32,
	} {
		if n, s := butt.Layouts(parse(t, text)); n != want || s != api.Clear {
			t.Error(text, n, s)
		}
	}
}

func TestP6_1Take(t *testing.T) {
	const (
		even  = "butt 2 1 0 0 1\nkind 1 2 2\nkind 2 2 2\n"
		three = "butt 6 2 0 0 1\nkind 2 5 0\nkind 3 4 0\nkind 6 3 0\n" // the longer ones are cheaper
		dear  = "butt 6 2 0 0 1\nkind 2 1 0\nkind 3 2 0\nkind 6 4 0\n"
		free  = "butt 6 1 0 0 1\nkind 3 0 0\nkind 9 0 0\n"
	)
	for i, x := range []struct {
		text           string
		layout         [][]int
		numbers, taken []int
		cost           int
		found          bool
	}{
		{textP, lay(on(2), on(4)), on(12, 12), on(2, 2), 8, true},
		{textP, lay(on(2), on(4)), on(2, 2), on(2, 2), 8, true},
		{textP, lay(on(2), on(4)), on(1, 12), on(1, 3), 10, true},
		{textP, lay(on(2), on(4)), on(0, 4), on(0, 4), 12, true},
		{textP, lay(on(2), on(4)), on(0, 3), nil, 0, false},
		{textP, lay(on(2), on(4)), on(3, 1), nil, 0, false}, // enough boards, but too short ones
		{textP, lay(on(2), on(4)), on(0, 0), nil, 0, false},
		{textP, lay(on(2, 4), nil), on(12, 12), nil, 0, false}, // no board is so long
		{textP, lay(on(2), on(3)), on(12, 12), nil, 0, false},  // it does not keep the rules
		{textP, lay(nil, nil), on(12, 12), nil, 0, false},
		{textC, lay(on(2), on(4)), on(3, 2), on(2, 2), 8, true}, // numbers need not be a boat
		{textO, lay(on(2), on(4)), on(12, 12), on(2, 2), 8, true},
		{even, lay(nil), on(2, 2), on(0, 1), 2, true},
		{even, lay(nil), on(2, 0), nil, 0, false},
		{even, lay(on(1)), on(2, 2), on(0, 2), 4, true}, // of several the least list
		{even, lay(on(1)), on(2, 1), on(1, 1), 4, true},
		{even, lay(on(1)), on(2, 0), on(2, 0), 4, true},
		{even, lay(on(1)), on(1, 0), nil, 0, false},
		{three, lay(on(2, 4), on(3)), on(3, 3, 12), on(0, 0, 5), 15, true},
		{three, lay(on(2, 4), on(3)), on(3, 3, 1), on(1, 3, 1), 20, true},
		{three, lay(on(2, 4), on(3)), on(3, 2, 0), on(3, 2, 0), 23, true},
		{three, lay(on(2, 4), on(3)), on(3, 1, 1), on(3, 1, 1), 22, true},
		{three, lay(on(2, 4), on(3)), on(4, 1, 0), nil, 0, false},
		{three, lay(on(2, 4), on(3)), on(2, 2, 0), nil, 0, false},
		{dear, lay(on(2, 4), on(3)), on(12, 12, 12), on(3, 2, 0), 7, true},
		{dear, lay(on(2, 4), on(3)), on(1, 3, 12), on(1, 3, 1), 11, true},
		{dear, lay(on(1), on(3)), on(12, 12, 12), on(1, 2, 1), 9, true},
		{dear, lay(on(1), nil), on(12, 12, 1), nil, 0, false},
		{free, lay(on(3)), on(12, 12), on(0, 2), 0, true},
		{free, lay(on(3)), on(12, 1), on(1, 1), 0, true},
		{free, lay(nil), on(12, 1), on(0, 1), 0, true},
		{textN, lay(nil, nil), on(12), nil, 0, false},
		{"butt 6 3 0 0 1\nkind 1 99 12\nkind 2 98 12\nkind 3 97 12\n", slices.Repeat(lay(on(1, 2, 3, 4, 5)), 3), on(12, 12, 12), on(0, 6, 12), 6*98 + 12*97, true},
	} {
		if l, n, found, s := butt.Take(parse(t, x.text), x.layout, x.numbers); !slices.Equal(l, x.taken) || n != x.cost || found != x.found || s != api.Clear {
			t.Error(i, l, n, found, s)
		}
	}
}

func TestP6_1NumbersSnags(t *testing.T) {
	for i, x := range []struct {
		numbers []int
		want    api.Snag
	}{
		{on(0, 12), api.Clear},
		{nil, api.Many},
		{on(2), api.Many},
		{on(2, 3, 3), api.Many},
		{on(13), api.Many},
		{on(13, 2), api.Range},
		{on(2, -1), api.Range},
		{on(most, least), api.Range},
	} {
		for _, text := range []string{textP, textC} {
			b := parse(t, text)
			if l, n, found, s := butt.Take(b, lay(on(2), on(3)), x.numbers); s != x.want || len(l) > 0 || n != 0 || found {
				t.Error(i, "Take", l, n, found, s)
			}
			if is, s := butt.IsBoat(b, x.numbers); s != x.want || is {
				t.Error(i, "IsBoat", is, s)
			}
		}
	}
}

func TestP6_1Everything(t *testing.T) {
	kept, taken := map[bool]int{}, map[bool]int{}
	eachBook(t, 800, func(t *testing.T, b api.ButtBook, o *oracle, r *rand.Rand) {
		if n, s := butt.Layouts(b); n != len(o.layouts) || s != api.Clear {
			t.Error("Layouts", n, s, len(o.layouts))
		}
		for range 6 {
			l, numbers := o.anyLayout(r), randomNumbers(r, b)
			is := keeps(b, l)
			kept[is]++
			if c, s := butt.Keeps(b, l); c != is || s != api.Clear {
				t.Error("Keeps", l, c, s)
			}
			var want [][]int
			for _, frames := range l {
				want = append(want, planksOf(b, frames))
			}
			if p, s := butt.Planks(b, l); !same(p, want) || s != api.Clear {
				t.Error("Planks", l, p, s)
			}
			x := o.take(l, numbers)
			taken[x.found]++
			if p, n, found, s := butt.Take(b, l, numbers); !slices.Equal(p, x.taken) || n != x.cost || found != x.found || s != api.Clear {
				t.Error("Take", l, numbers, p, n, found, s, x)
			}
		}
	})
	if kept[true] < 1000 || kept[false] < 500 || taken[true] < 500 || taken[false] < 500 {
		t.Error("the books are too much alike", kept, taken)
	}
}

// Planks of a strake are together as long as it; boards that are taken are as many as the planks, each plank has one of its own that is not shorter, and no cheaper ones do.
func TestP6_8Planks(t *testing.T) {
	tried := 0
	eachBook(t, 300, func(t *testing.T, b api.ButtBook, o *oracle, r *rand.Rand) {
		for range 5 {
			l, numbers := o.anyLayout(r), randomNumbers(r, b)
			planks, _ := butt.Planks(b, l)
			for strake, list := range planks {
				if sum(list) != b.Frames || len(list) != len(l[strake])+1 {
					t.Error("Planks", l, planks)
				}
			}
			taken, cost, found, _ := butt.Take(b, l, numbers)
			if !found {
				continue
			}
			tried++
			all := slices.Concat(planks...)
			if sum(taken) != len(all) || costOf(b, taken) != cost || !have(b, all, taken) {
				t.Error("Take", l, numbers, taken, cost)
			}
			for kind, n := range taken {
				if n > numbers[kind] {
					t.Error("there are no such boards", l, numbers, taken)
				}
			}
			for _, other := range upTo(numbers) {
				if n := costOf(b, other); sum(other) == len(all) && (n < cost || n == cost && slices.Compare(other, taken) < 0) && have(b, all, other) {
					t.Error("others are cheaper, or less", l, numbers, taken, other)
				}
			}
		}
	})
	if tried < 300 {
		t.Error("too few planks", tried)
	}
}

// have tells whether planks can be had of boards. The longest plank takes its board first; which one makes no difference, as any that does for it does for all others.
func have(b api.ButtBook, planks, boards []int) bool {
	if len(planks) == 0 {
		return true
	}
	planks = slices.Clone(planks)
	slices.Sort(planks)
	last := len(planks) - 1
	for kind, n := range boards {
		if n == 0 || b.Kinds[kind].Long < planks[last] {
			continue
		}
		rest := slices.Clone(boards)
		rest[kind]--
		return have(b, planks[:last], rest)
	}
	return false
}
