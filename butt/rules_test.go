package butt_test

import (
	"math/rand"
	"reflect"
	"slices"
	"strings"
	"sync"
	"testing"

	"ribband/api"
	"ribband/butt"
)

// call is a function that was called; its results come with the snag last.
type call struct {
	name    string
	results []any
}

func row(results ...any) []any { return results }

func (c call) snag() api.Snag { return c.results[len(c.results)-1].(api.Snag) }

// news is what is asked about a book, or becomes known.
type news struct {
	kind    int
	layout  [][]int
	numbers []int
	x       api.Span
	note    api.ButtNote
}

// calls calls each function that has a book among its arguments.
func calls(b api.ButtBook, n news) []call {
	return []call{
		{"CheckBook", row(butt.CheckBook(b))},
		{"Planks", row(butt.Planks(b, n.layout))},
		{"Keeps", row(butt.Keeps(b, n.layout))},
		{"Layouts", row(butt.Layouts(b))},
		{"Take", row(butt.Take(b, n.layout, n.numbers))},
		{"IsBoat", row(butt.IsBoat(b, n.numbers))},
		{"Boats", row(butt.Boats(b))},
		{"Numbers", row(butt.Numbers(b, n.kind))},
		{"Can", row(butt.Can(b, n.layout))},
		{"Fewest", row(butt.Fewest(b))},
		{"Cheapest", row(butt.Cheapest(b))},
		{"Shift", row(butt.Shift(b, n.layout))},
		{"Rotten", row(butt.Rotten(b, n.kind))},
		{"Clash", row(butt.Clash(b))},
		{"Ask", row(butt.Ask(b))},
		{"Count", row(butt.Count(b, n.kind, n.x))},
		{"Note", row(butt.Note(b, n.note))},
		{"Print", row(butt.Print(b))},
	}
}

func isZero(v any) bool {
	r := reflect.ValueOf(v)
	return r.IsZero() || r.Kind() == reflect.Slice && r.Len() == 0
}

// snagOf returns the snag of results, which are zero if there is one.
func snagOf(t *testing.T, results []any) api.Snag {
	t.Helper()
	last := len(results) - 1
	s := results[last].(api.Snag)
	if s != api.Clear && slices.ContainsFunc(results[:last], func(v any) bool { return !isZero(v) }) {
		t.Error("with a snag there is a result", results)
	}
	return s
}

var strange = []int{least, -1000, -1, 0, 1, 2, 3, 4, 5, 6, 7, 9, 10, 12, 13, 36, 37, 99, 100, 1 << 40, most}

func pick(r *rand.Rand) int { return strange[r.Intn(len(strange))] }

func strangeList(r *rand.Rand) (list []int) {
	for range r.Intn(5) {
		list = append(list, pick(r))
	}
	return list
}

func strangeNews(r *rand.Rand) news {
	n := news{kind: pick(r), numbers: strangeList(r), x: to(pick(r), pick(r)), note: note(to(pick(r), pick(r)), strangeList(r)...)}
	for range r.Intn(5) {
		n.layout = append(n.layout, strangeList(r))
	}
	return n
}

// likelyNews is what a book often has an answer to.
func likelyNews(r *rand.Rand, b api.ButtBook) news {
	n := news{kind: r.Intn(len(b.Kinds)), layout: randomLayout(r, b), numbers: randomNumbers(r, b)}
	n.x, n.note = around(r, n.numbers[n.kind], api.MaxButtMany), noteAbout(r, n.numbers)
	return n
}

func strangeBook(r *rand.Rand) api.ButtBook {
	b := randomBook(r)
	n := strangeNews(r)
	kind := r.Intn(len(b.Kinds))
	switch r.Intn(13) {
	case 0:
		b.Frames = pick(r)
	case 1:
		b.Strakes = pick(r)
	case 2:
		b.Gap = pick(r)
	case 3:
		b.Between = pick(r)
	case 4:
		b.Least = pick(r)
	case 5:
		b.Kinds[kind].Long = pick(r)
	case 6:
		b.Kinds[kind].Cost = pick(r)
	case 7:
		b.Kinds[kind].Many = n.x
	case 8:
		b.Kinds = append(b.Kinds, b.Kinds[kind])
	case 9:
		b.Kinds = append(b.Kinds, make([]api.ButtKind, r.Intn(4))...)
	case 10:
		b.Kinds = b.Kinds[:kind]
	case 11:
		b.Notes = append(b.Notes, n.note)
	case 12:
		b.Notes = append(b.Notes, make([]api.ButtNote, r.Intn(4))...)
	}
	return b
}

func copyLayout(l [][]int) [][]int {
	l = slices.Clone(l)
	for i := range l {
		l[i] = slices.Clone(l[i])
	}
	return l
}

func TestP0_1Always(t *testing.T) {
	r := rand.New(rand.NewSource(1))
	for range 1500 {
		b, n := strangeBook(r), strangeNews(r)
		if r.Intn(3) == 0 {
			b = randomBook(r)
			if r.Intn(2) == 0 {
				n = likelyNews(r, b)
			}
		}
		was, with := clone(b), n
		with.layout, with.numbers, with.note.Kinds = copyLayout(n.layout), slices.Clone(n.numbers), slices.Clone(n.note.Kinds)
		if !reflect.DeepEqual(calls(b, n), calls(b, n)) || !reflect.DeepEqual(b, was) || !reflect.DeepEqual(n, with) {
			t.Fatal(b, n)
		}
	}
	for _, text := range []string{"", "\x00", "butt", "butt 1 1 1 1 1\nkind", strings.Repeat("\xff ", 9), strings.Repeat("note 0..", 999), "butt 6 2 2 1 2\nkind 2 1 2\nnote " + strings.Repeat("0+", 9999) + "0 3\n"} {
		b, line, s := butt.Parse(text)
		if c, other, again := butt.Parse(text); s == api.Clear || other != line || again != s || !reflect.DeepEqual(b, c) {
			t.Errorf("%.60q: %v %v", text, line, s)
		}
	}
	long, many := parse(t, textP), make([]int, 1<<20)
	for i := range many {
		many[i] = i
	}
	if p, s := butt.Planks(long, lay(many[1:], nil)); len(p) > 0 || s != api.Absent {
		t.Error(p, s)
	}
	if p, s := butt.Planks(long, make([][]int, 1<<20)); len(p) > 0 || s != api.Many {
		t.Error(p, s)
	}
	if is, s := butt.IsBoat(long, many); is || s != api.Many {
		t.Error(is, s)
	}
	if now, s := butt.Note(long, note(one(3), many...)); len(now.Kinds) > 0 || s != api.Absent {
		t.Error(now, s)
	}
	long.Notes = make([]api.ButtNote, 1<<20)
	if s := butt.CheckBook(long); s != api.Many {
		t.Error(s)
	}
	long.Kinds = make([]api.ButtKind, 1<<20)
	if s := butt.CheckBook(long); s != api.Many {
		t.Error(s)
	}
}

func TestP0_1Together(t *testing.T) {
	b, foul := parse(t, textO), parse(t, textC)
	n := news{layout: lay(on(2), on(4)), numbers: on(2, 3), x: to(2, 3), note: note(one(4), 0, 1)}
	all := func() []call { return slices.Concat(calls(b, n), calls(foul, n)) }
	want := all()
	var group sync.WaitGroup
	for range 16 {
		group.Add(1)
		go func() {
			defer group.Done()
			for range 30 {
				if got := all(); !reflect.DeepEqual(got, want) {
					t.Error(got)
				}
			}
		}()
	}
	group.Wait()
}

// The book's snag comes first, and with a snag all other results are zero.
func TestP0_2Snags(t *testing.T) {
	r := rand.New(rand.NewSource(3))
	seen := map[api.Snag]int{}
	for range 2000 {
		b := strangeBook(r)
		want := butt.CheckBook(b)
		seen[want]++
		for _, c := range calls(b, strangeNews(r)) {
			if s := snagOf(t, c.results); want != api.Clear && s != want {
				t.Fatal(c, b, s)
			}
		}
	}
	for _, s := range []api.Snag{api.Clear, api.Range, api.Many, api.Absent, api.Turned} {
		if seen[s] < 30 {
			t.Error("the books are too much alike", seen)
		}
	}
}

// The snags of what is handed in come before what is said of a function, and that before Foul.
func TestP0_2Order(t *testing.T) {
	none := parse(t, textC)
	empty := parse(t, "butt 6 2 2 1 2\nkind 2 1 0\nkind 4 3 3\nnote 0 1\n")
	full := parse(t, textP+strings.Repeat("note 1 3\n", api.MaxButtNotes))
	bad := clone(none)
	bad.Gap = 6
	good := lay(on(2), on(4))
	for i, x := range []struct {
		results []any
		want    api.Snag
	}{
		{row(butt.CheckBook(none)), api.Clear},
		{row(butt.CheckBook(bad)), api.Range},
		{row(butt.Planks(bad, nil)), api.Range},
		{row(butt.Planks(none, nil)), api.Many},
		{row(butt.Planks(none, lay(on(6), nil))), api.Absent},
		{row(butt.Planks(none, lay(on(2, 2), nil))), api.Turned},
		{row(butt.Planks(none, good)), api.Clear},
		{row(butt.Keeps(bad, nil)), api.Range},
		{row(butt.Keeps(none, nil)), api.Many},
		{row(butt.Keeps(none, lay(on(6), nil))), api.Absent},
		{row(butt.Keeps(none, good)), api.Clear},
		{row(butt.Layouts(bad)), api.Range},
		{row(butt.Layouts(none)), api.Clear},
		{row(butt.Take(bad, nil, nil)), api.Range},
		{row(butt.Take(none, nil, on(13, 13))), api.Many},
		{row(butt.Take(none, lay(on(6), nil), nil)), api.Absent},
		{row(butt.Take(none, lay(on(2, 2), nil), nil)), api.Turned},
		{row(butt.Take(none, lay(on(2), on(3)), nil)), api.Many}, // even if it does not keep the rules
		{row(butt.Take(none, good, on(13))), api.Many},
		{row(butt.Take(none, good, on(13, 3))), api.Range},
		{row(butt.Take(none, good, on(2, 3))), api.Clear},
		{row(butt.IsBoat(bad, nil)), api.Range},
		{row(butt.IsBoat(none, nil)), api.Many},
		{row(butt.IsBoat(none, on(13, 3))), api.Range},
		{row(butt.IsBoat(none, on(2, 3))), api.Clear},
		{row(butt.Boats(bad)), api.Range},
		{row(butt.Boats(none)), api.Clear},
		{row(butt.Numbers(bad, 2)), api.Range},
		{row(butt.Numbers(none, 2)), api.Absent},
		{row(butt.Numbers(none, 1)), api.Foul},
		{row(butt.Can(bad, nil)), api.Range},
		{row(butt.Can(none, nil)), api.Many},
		{row(butt.Can(none, lay(on(6), nil))), api.Absent},
		{row(butt.Can(none, lay(on(2, 2), nil))), api.Turned},
		{row(butt.Can(none, good)), api.Foul},
		{row(butt.Can(none, lay(on(2), on(3)))), api.Foul}, // even if it does not keep the rules
		{row(butt.Fewest(bad)), api.Range},
		{row(butt.Fewest(none)), api.Foul},
		{row(butt.Cheapest(bad)), api.Range},
		{row(butt.Cheapest(none)), api.Foul},
		{row(butt.Shift(bad, nil)), api.Range},
		{row(butt.Shift(none, nil)), api.Many},
		{row(butt.Shift(none, lay(on(6), nil))), api.Absent},
		{row(butt.Shift(none, lay(on(2, 2), nil))), api.Turned},
		{row(butt.Shift(none, good)), api.Foul},
		{row(butt.Rotten(bad, 2)), api.Range},
		{row(butt.Rotten(empty, 2)), api.Absent},
		{row(butt.Rotten(empty, 0)), api.Scant},
		{row(butt.Rotten(empty, 1)), api.Foul},
		{row(butt.Rotten(none, 0)), api.Foul},
		{row(butt.Clash(bad)), api.Range},
		{row(butt.Clash(none)), api.Clear},
		{row(butt.Ask(bad)), api.Range},
		{row(butt.Ask(none)), api.Foul},
		{row(butt.Count(bad, 2, to(1, 0))), api.Range},
		{row(butt.Count(none, 2, to(1, 0))), api.Absent},
		{row(butt.Count(none, 0, to(1, 0))), api.Range},
		{row(butt.Count(none, 0, to(0, 13))), api.Range},
		{row(butt.Count(none, 0, one(9))), api.Foul},
		{row(butt.Count(none, 0, to(2, 3))), api.Foul},
		{row(butt.Note(bad, note(to(1, 0), 2))), api.Range},
		{row(butt.Note(full, note(to(1, 0), 2))), api.Many}, // how many there are comes before each of them
		{row(butt.Note(none, note(to(1, 0)))), api.Many},
		{row(butt.Note(none, note(to(1, 0), 2))), api.Absent},
		{row(butt.Note(none, note(to(1, 0), 1, 1))), api.Turned},
		{row(butt.Note(none, note(to(1, 0), 1))), api.Range},
		{row(butt.Note(none, note(one(3), 1))), api.Foul},
		{row(butt.Print(bad)), api.Range},
		{row(butt.Print(none)), api.Clear},
	} {
		if s := snagOf(t, x.results); s != x.want {
			t.Error(i, s)
		}
	}
}

// If nothing is found, what would tell it is zero, too.
func TestP0_2NotFound(t *testing.T) {
	for _, text := range []string{textO, textN} {
		b := parse(t, text)
		numbers := slices.Repeat([]int{1}, len(b.Kinds))
		if l, n, found, s := butt.Take(b, lay(nil, on(2)), numbers); len(l) > 0 || n != 0 || found || s != api.Clear {
			t.Error(l, n, found, s)
		}
		if l, n, found, s := butt.Fewest(b); len(l) > 0 || n != 0 || found || s != api.Clear {
			t.Error(l, n, found, s)
		}
		if l, n, found, s := butt.Cheapest(b); len(l) > 0 || n != 0 || found || s != api.Clear {
			t.Error(l, n, found, s)
		}
		if l, n, found, s := butt.Shift(b, lay(on(1), on(2))); len(l) > 0 || n != 0 || found || s != api.Clear {
			t.Error(l, n, found, s)
		}
	}
}

// It makes no difference whether a slice is nil or empty (R3).
func TestEmpty(t *testing.T) {
	for _, text := range []string{textP, textE} {
		b := parse(t, text)
		e := clone(b)
		b.Notes, e.Notes = nil, []api.ButtNote{}
		n := news{layout: make([][]int, b.Strakes), x: to(0, 12), note: note(to(0, 36), 0)}
		m := n
		m.layout = nil
		for range b.Strakes {
			m.layout = append(m.layout, []int{})
		}
		m.numbers = []int{}
		two := calls(e, m)
		for i, c := range calls(b, n) {
			for k, x := range c.results {
				if !alike(t, x, two[i].results[k]) {
					t.Error(c, two[i])
				}
			}
		}
	}
	b, e := parse(t, textP), parse(t, textP)
	b.Kinds, e.Kinds = nil, []api.ButtKind{}
	if s, l := butt.CheckBook(b), butt.CheckBook(e); s != api.Many || l != api.Many {
		t.Error(s, l)
	}
	b, e = parse(t, textP), parse(t, textP)
	b.Notes, e.Notes = []api.ButtNote{{}}, []api.ButtNote{{Kinds: []int{}}}
	if s, l := butt.CheckBook(b), butt.CheckBook(e); s != api.Many || l != api.Many {
		t.Error(s, l)
	}
	if p, s := butt.Planks(parse(t, textP), [][]int{}); len(p) > 0 || s != api.Many {
		t.Error(p, s)
	}
}

// alike tells whether two results are equal, if it makes no difference whether a slice is nil or empty.
func alike(t *testing.T, x, y any) bool {
	t.Helper()
	switch x := x.(type) {
	case api.ButtBook:
		if len(x.Kinds) == 0 {
			return reflect.DeepEqual(x, y)
		}
		return printed(t, x) == printed(t, y.(api.ButtBook))
	case [][]int:
		return same(x, y.([][]int))
	}
	return isZero(x) && isZero(y) || reflect.DeepEqual(x, y)
}

// fill changes all memory of a list, also what is behind its end.
func fill[T any](list []T, x T) {
	list = list[:cap(list)]
	for i := range list {
		list[i] = x
	}
}

func roomy[T any](list []T) []T { return append(make([]T, 0, 9), list...) }

// spoil changes all memory of a book.
func spoil(b api.ButtBook) {
	for _, n := range b.Notes {
		fill(n.Kinds, -7)
	}
	fill(b.Kinds, api.ButtKind{Long: -7})
	fill(b.Notes, note(one(-7)))
}

// No argument is changed, and no result shares memory with one (R4).
func TestMemory(t *testing.T) {
	const text = textP + "note 0+1 5..6\n"
	kinds := roomy(on(0, 1))
	for i, change := range []func(b api.ButtBook) (api.ButtBook, api.Snag){
		func(b api.ButtBook) (api.ButtBook, api.Snag) { return butt.Rotten(b, 0) },
		func(b api.ButtBook) (api.ButtBook, api.Snag) { return butt.Rotten(b, 1) },
		func(b api.ButtBook) (api.ButtBook, api.Snag) { return butt.Count(b, 0, one(3)) },
		func(b api.ButtBook) (api.ButtBook, api.Snag) { return butt.Count(b, 0, to(0, 12)) },
		func(b api.ButtBook) (api.ButtBook, api.Snag) { return butt.Note(b, note(one(5), kinds...)) },
	} {
		b := parse(t, text)
		b.Kinds, b.Notes = roomy(b.Kinds), roomy(b.Notes)
		b.Notes[0].Kinds = roomy(b.Notes[0].Kinds)
		now, s := change(b)
		if s != api.Clear || printed(t, b) != text {
			t.Fatal(i, s, b)
		}
		if len(b.Notes[:2][1].Kinds) > 0 || b.Kinds[:3][2].Long > 0 {
			t.Error(i, "what is behind the end of a list was changed", b)
		}
		after := printed(t, now)
		spoil(now)
		if printed(t, b) != text || !slices.Equal(kinds, on(0, 1)) {
			t.Error(i, b, kinds)
		}
		now, _ = change(b)
		spoil(b)
		fill(kinds, -7)
		if printed(t, now) != after {
			t.Error(i, now)
		}
		kinds = roomy(on(0, 1))
	}
}

// The lists that are returned share no memory with a book, with what is handed in, or with each other.
func TestMemoryOfLists(t *testing.T) {
	b, numbers := parse(t, textP), roomy(on(2, 3))
	layout := lay(roomy(on(2)), roomy(on(4)))
	b.Kinds, b.Notes = roomy(b.Kinds), roomy(b.Notes)
	for _, find := range []func() [][]int{
		func() [][]int { p, _ := butt.Planks(b, layout); return p },
		func() [][]int { l, _, _, _ := butt.Take(b, layout, numbers); return [][]int{l} },
		func() [][]int { l, _ := butt.Numbers(b, 0); return [][]int{l} },
		func() [][]int { l, _, _, _ := butt.Fewest(b); return l },
		func() [][]int { l, _, _, _ := butt.Cheapest(b); return l },
		func() [][]int { l, _, _, _ := butt.Shift(b, layout); return l },
		func() [][]int { l, _ := butt.Clash(parse(t, textC)); return [][]int{l} },
	} {
		want := find()
		for i := range want {
			got := find()
			fill(got[i], -7)
			for k := range got {
				if k != i && !slices.Equal(got[k], want[k]) {
					t.Error(got, want)
				}
			}
			got[i] = nil
			if !reflect.DeepEqual(find(), want) {
				t.Error(want)
			}
		}
	}
	if printed(t, b) != textP || !slices.Equal(numbers, on(2, 3)) || !same(layout, lay(on(2), on(4))) {
		t.Error(b, numbers, layout)
	}
}

// What is printed is parsed as an equal book, with or without its last line feed.
func TestP0_3Texts(t *testing.T) {
	eachBook(t, 300, func(t *testing.T, b api.ButtBook, o *oracle, r *rand.Rand) {
		text := printed(t, b)
		for _, s := range []string{text, strings.TrimSuffix(text, "\n")} {
			if now := parse(t, s); !reflect.DeepEqual(now, b) {
				t.Error(now)
			}
		}
	})
}

// Boards that are really there are a boat of each book that is right about them, and all that books tell of them is so.
func TestP0_4WhateverTheyAre(t *testing.T) {
	eachBook(t, 150, func(t *testing.T, b api.ButtBook, o *oracle, r *rand.Rand) {
		for _, numbers := range o.boats[:min(len(o.boats), 4)] {
			numbers := slices.Clone(numbers)
			books := []api.ButtBook{b}
			learn := func(what string, now api.ButtBook, s api.Snag) {
				if s != api.Clear {
					t.Fatal(what, books[len(books)-1], numbers, s)
				}
				books = append(books, now)
				tellsRight(t, now, numbers, o.anyLayout(r))
			}
			tellsRight(t, b, numbers, o.anyLayout(r))
			for range api.MaxButtNotes - len(b.Notes) {
				now, s := butt.Note(books[len(books)-1], noteAbout(r, numbers))
				learn("Note", now, s)
			}
			for kind, n := range numbers {
				now, s := butt.Count(books[len(books)-1], kind, to(max(n-r.Intn(3), 0), min(n+r.Intn(3), api.MaxButtMany)))
				learn("Count", now, s)
				if n > 0 && r.Intn(2) == 0 {
					numbers[kind]--
					now, s := butt.Rotten(books[len(books)-1], kind)
					learn("Rotten", now, s)
				}
			}
		}
	})
}

// What becomes known makes nothing possible that was not, and takes back nothing that was sure.
func TestP0_6KnowingMore(t *testing.T) {
	tried := 0
	eachBook(t, 300, func(t *testing.T, b api.ButtBook, o *oracle, r *rand.Rand) {
		for _, now := range knowingMore(r, b) {
			knowsMore(t, b, now, o.anyLayout(r))
			tried++
		}
	})
	if tried < 500 {
		t.Error("too few books", tried)
	}
}

// knowingMore returns books of which something more is known.
func knowingMore(r *rand.Rand, b api.ButtBook) (books []api.ButtBook) {
	for range 3 {
		kind := r.Intn(len(b.Kinds))
		low := some(r, b.Kinds[kind].Many)
		if now, s := butt.Count(b, kind, to(low, min(low+r.Intn(2), api.MaxButtMany))); s == api.Clear {
			books = append(books, now)
		}
		if now, s := butt.Note(b, noteAbout(r, randomNumbers(r, b))); s == api.Clear {
			books = append(books, now)
		}
	}
	return books
}

func knowsMore(t *testing.T, b, now api.ButtBook, l [][]int) {
	t.Helper()
	many, _ := butt.Boats(b)
	if n, _ := butt.Boats(now); n > many || n == 0 {
		t.Error("Boats", b, now, many, n)
	}
	for kind := range b.Kinds {
		before, _ := butt.Numbers(b, kind)
		after, _ := butt.Numbers(now, kind)
		for _, n := range after {
			if !slices.Contains(before, n) {
				t.Error("Numbers", b, now, kind, n)
			}
		}
	}
	before, _ := butt.Can(b, l)
	if sure, _ := butt.Can(now, l); before != api.Open && sure != before {
		t.Error("Can", b, now, l, before, sure)
	}
	// what surely could still can; perhaps more can, and costs less in its worst boat
	notWorse(t, "Fewest", now)(butt.Fewest(b))(butt.Fewest(now))
	notWorse(t, "Cheapest", now)(butt.Cheapest(b))(butt.Cheapest(now))
	notWorse(t, "Shift", now)(butt.Shift(b, l))(butt.Shift(now, l))
	if layouts, _ := butt.Layouts(b); layouts > 0 {
		if n, _ := butt.Layouts(now); n != layouts {
			t.Error("Layouts", b, now, layouts, n)
		}
	}
}
