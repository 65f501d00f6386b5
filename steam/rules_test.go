package steam_test

import (
	"math/rand"
	"reflect"
	"slices"
	"strings"
	"sync"
	"testing"

	"ribband/api"
	"ribband/steam"
)

// call is a function that was called; its results come with the snag last.
type call struct {
	name    string
	results []any
}

func row(results ...any) []any { return results }

// news is what is asked about a book, or becomes known.
type news struct {
	plank       int
	times, plan []int
	x           api.Span
	note        api.SteamNote
}

// calls calls each function that has a book among its arguments.
func calls(b api.SteamBook, n news) []call {
	return []call{
		{"CheckBook", row(steam.CheckBook(b))},
		{"Work", row(steam.Work(b, n.times, n.plan))},
		{"Cold", row(steam.Cold(b, n.times, n.plan))},
		{"End", row(steam.End(b, n.times, n.plan))},
		{"IsBoat", row(steam.IsBoat(b, n.times))},
		{"Boats", row(steam.Boats(b))},
		{"Times", row(steam.Times(b, n.plank))},
		{"Ends", row(steam.Ends(b, n.plan))},
		{"Hung", row(steam.Hung(b, n.plan, n.plank))},
		{"Good", row(steam.Good(b, n.plan))},
		{"Plans", row(steam.Plans(b))},
		{"Soonest", row(steam.Soonest(b))},
		{"Fewest", row(steam.Fewest(b))},
		{"Clash", row(steam.Clash(b))},
		{"Ask", row(steam.Ask(b))},
		{"Note", row(steam.Note(b, n.note))},
		{"Time", row(steam.Time(b, n.plank, n.x))},
		{"Print", row(steam.Print(b))},
	}
}

func isZero(v any) bool {
	r := reflect.ValueOf(v)
	return r.IsZero() || r.Kind() == reflect.Slice && r.Len() == 0
}

// snagOf returns the snag of results, which are zero if there is one.
func snagOf(t *testing.T, results []any) api.Snag {
	t.Helper()
	last := len(results) - 1
	s := results[last].(api.Snag)
	if s != api.Clear && slices.ContainsFunc(results[:last], func(v any) bool { return !isZero(v) }) {
		t.Error("with a snag there is a result", results)
	}
	return s
}

var strange = []int{least, -1000, -1, 0, 1, 2, 3, 4, 5, 6, 7, 12, 19, 20, 21, 80, 81, 200, 201, 1 << 40, most}

func pick(r *rand.Rand) int { return anyOf(r, strange) }

func strangeName(r *rand.Rand) string {
	return anyOf(r, []string{"", "a", "keel", "B", "9", "a b", "\xff", "none", "abcdefghijk"})
}

func strangeList(r *rand.Rand) (list []int) {
	for range r.Intn(6) {
		list = append(list, pick(r))
	}
	return list
}

func strangeNews(r *rand.Rand) news {
	return news{plank: pick(r), times: strangeList(r), plan: strangeList(r), x: to(pick(r), pick(r)), note: note(to(pick(r), pick(r)), strangeList(r)...)}
}

// likelyNews is what a book often has an answer to.
func likelyNews(r *rand.Rand, b api.SteamBook) news {
	n := news{plank: r.Intn(len(b.Planks)), times: randomTimes(r, b), plan: r.Perm(len(b.Planks))}
	n.x, n.note = b.Planks[n.plank].Steam, noteAbout(r, n.times)
	n.x.Low = some(r, n.x)
	return n
}

func strangeBook(r *rand.Rand) api.SteamBook {
	b := randomBook(r)
	n := strangeNews(r)
	plank := &b.Planks[r.Intn(len(b.Planks))]
	switch r.Intn(12) {
	case 0:
		b.Places = pick(r)
	case 1:
		b.Hands = pick(r)
	case 2:
		b.Tide = pick(r)
	case 3:
		plank.Name = strangeName(r)
	case 4:
		plank.Steam = n.x
	case 5:
		plank.Hang = pick(r)
	case 6:
		plank.Soft = pick(r)
	case 7:
		b.Planks = append(b.Planks, *plank)
	case 8:
		b.Planks = append(b.Planks, make([]api.SteamPlank, r.Intn(4))...)
	case 9:
		b.Planks = b.Planks[:r.Intn(len(b.Planks))]
	case 10:
		b.Notes = append(b.Notes, n.note)
	case 11:
		b.Notes = append(b.Notes, make([]api.SteamNote, r.Intn(4))...)
	}
	return b
}

func TestP0_1Always(t *testing.T) {
	r := rand.New(rand.NewSource(1))
	for range 1500 {
		b, n := strangeBook(r), strangeNews(r)
		if r.Intn(3) == 0 {
			b = randomBook(r)
			if r.Intn(2) == 0 {
				n = likelyNews(r, b)
			}
		}
		was, with := clone(b), n
		with.times, with.plan, with.note.Planks = slices.Clone(n.times), slices.Clone(n.plan), slices.Clone(n.note.Planks)
		if !reflect.DeepEqual(calls(b, n), calls(b, n)) || !reflect.DeepEqual(b, was) || !reflect.DeepEqual(n, with) {
			t.Fatal(b, n)
		}
	}
	for _, text := range []string{"", "\x00", "steam", "steam 1 1 1\nplank", strings.Repeat("\xff ", 9), strings.Repeat("note 0..", 999), textO + "note " + strings.Repeat("0+", 9999) + "0 3\n"} {
		b, line, s := steam.Parse(text)
		if c, other, again := steam.Parse(text); s == api.Clear || other != line || again != s || !reflect.DeepEqual(b, c) {
			t.Errorf("%.60q: %v %v", text, line, s)
		}
	}
}

// Lists can be of any length.
func TestP0_1Long(t *testing.T) {
	b, many := parse(t, textV), make([]int, 1<<20)
	for i := range many {
		many[i] = i
	}
	for _, c := range calls(b, news{times: many, plan: many, x: to(2, 3), note: note(one(3), many...)}) {
		want := api.Clear
		switch c.name {
		case "Work", "Cold", "End", "IsBoat", "Ends", "Hung", "Good":
			want = api.Many
		case "Note":
			want = api.Absent
		case "Time":
			want = api.Foul // of the plank 0
		}
		if s := snagOf(t, c.results); s != want {
			t.Error(c, s)
		}
	}
	b.Notes = make([]api.SteamNote, 1<<20)
	if s := steam.CheckBook(b); s != api.Many {
		t.Error(s)
	}
	b.Planks = make([]api.SteamPlank, 1<<20)
	if s := steam.CheckBook(b); s != api.Many {
		t.Error(s)
	}
}

func TestP0_1Together(t *testing.T) {
	b, foul := parse(t, textV), parse(t, textC)
	n := news{plank: 1, times: on(4, 3, 3), plan: on(2, 1, 0), x: to(2, 3), note: note(one(6), 0, 1)}
	all := func() []call { return slices.Concat(calls(b, n), calls(foul, n)) }
	want := all()
	var group sync.WaitGroup
	for range 16 {
		group.Add(1)
		go func() {
			defer group.Done()
			for range 30 {
				if got := all(); !reflect.DeepEqual(got, want) {
					t.Error(got)
				}
			}
		}()
	}
	group.Wait()
}

// The book's snag comes first, and with a snag all other results are zero.
func TestP0_2Snags(t *testing.T) {
	r := rand.New(rand.NewSource(3))
	seen := map[api.Snag]int{}
	for range 2500 {
		b := strangeBook(r)
		want := steam.CheckBook(b)
		seen[want]++
		for _, c := range calls(b, strangeNews(r)) {
			if s := snagOf(t, c.results); want != api.Clear && s != want {
				t.Fatal(c, b, s)
			}
		}
	}
	for _, s := range []api.Snag{api.Clear, api.Range, api.Many, api.Name, api.Again, api.Absent} {
		if seen[s] < 30 {
			t.Error("the books are too much alike", seen)
		}
	}
}

// The snags of what is handed in come before what is said of a function, and that before Foul.
func TestP0_2Order(t *testing.T) {
	none := parse(t, textC)
	full := parse(t, headV+strings.Repeat("note 2 3\n", api.MaxSteamNotes))
	bad := clone(none)
	bad.Hands = 0
	times, plan := on(4, 2, 3), on(0, 1, 2)
	for i, x := range []struct {
		results []any
		want    api.Snag
	}{
		{row(steam.CheckBook(none)), api.Clear},
		{row(steam.CheckBook(bad)), api.Range},
		{row(steam.Work(bad, nil, nil)), api.Range},
		{row(steam.Work(none, nil, on(3))), api.Many},
		{row(steam.Work(none, on(0, 2, 3), nil)), api.Range}, // times come before a plan
		{row(steam.Work(none, times, nil)), api.Many},
		{row(steam.Work(none, times, on(0, 3, 0))), api.Absent},
		{row(steam.Work(none, times, on(0, 0, 3))), api.Again},
		{row(steam.Work(none, times, plan)), api.Clear},
		{row(steam.Cold(bad, nil, nil)), api.Range},
		{row(steam.Cold(none, on(0, 2, 3), nil)), api.Range},
		{row(steam.Cold(none, times, nil)), api.Many},
		{row(steam.Cold(none, times, plan)), api.Clear},
		{row(steam.End(bad, nil, nil)), api.Range},
		{row(steam.End(none, on(0, 2, 3), nil)), api.Range},
		{row(steam.End(none, times, nil)), api.Many},
		{row(steam.End(none, times, plan)), api.Clear},
		{row(steam.IsBoat(bad, nil)), api.Range},
		{row(steam.IsBoat(none, nil)), api.Many},
		{row(steam.IsBoat(none, on(4, 2, 21))), api.Range},
		{row(steam.IsBoat(none, times)), api.Clear},
		{row(steam.Boats(bad)), api.Range},
		{row(steam.Boats(none)), api.Clear},
		{row(steam.Times(bad, 3)), api.Range},
		{row(steam.Times(none, 3)), api.Absent},
		{row(steam.Times(none, 1)), api.Foul},
		{row(steam.Ends(bad, nil)), api.Range},
		{row(steam.Ends(none, nil)), api.Many},
		{row(steam.Ends(none, on(0, 3, 0))), api.Absent},
		{row(steam.Ends(none, on(0, 0, 3))), api.Again},
		{row(steam.Ends(none, plan)), api.Foul},
		{row(steam.Hung(bad, nil, 3)), api.Range},
		{row(steam.Hung(none, nil, 3)), api.Many}, // a plan comes before a plank
		{row(steam.Hung(none, on(0, 0, 3), 3)), api.Again},
		{row(steam.Hung(none, plan, 3)), api.Absent},
		{row(steam.Hung(none, plan, 1)), api.Foul},
		{row(steam.Good(bad, nil)), api.Range},
		{row(steam.Good(none, nil)), api.Many},
		{row(steam.Good(none, on(0, 3, 0))), api.Absent},
		{row(steam.Good(none, on(0, 0, 3))), api.Again},
		{row(steam.Good(none, plan)), api.Foul},
		{row(steam.Plans(bad)), api.Range},
		{row(steam.Plans(none)), api.Foul},
		{row(steam.Soonest(bad)), api.Range},
		{row(steam.Soonest(none)), api.Foul},
		{row(steam.Fewest(bad)), api.Range},
		{row(steam.Fewest(none)), api.Foul},
		{row(steam.Clash(bad)), api.Range},
		{row(steam.Clash(none)), api.Clear},
		{row(steam.Ask(bad)), api.Range},
		{row(steam.Ask(none)), api.Foul},
		{row(steam.Note(bad, note(to(1, 0), 3))), api.Range},
		{row(steam.Note(full, note(to(1, 0), 3))), api.Many}, // how many there are comes before each of them
		{row(steam.Note(parse(t, textD), note(to(1, 0)))), api.Many},
		{row(steam.Note(parse(t, textD), note(to(1, 0), 3))), api.Absent},
		{row(steam.Note(parse(t, textD), note(to(1, 0), 1, 1))), api.Turned},
		{row(steam.Note(parse(t, textD), note(to(1, 0), 1))), api.Range},
		{row(steam.Note(parse(t, textD), note(one(3), 1))), api.Foul},
		{row(steam.Time(bad, 3, to(1, 0))), api.Range},
		{row(steam.Time(none, 3, to(1, 0))), api.Absent},
		{row(steam.Time(none, 1, to(1, 0))), api.Range},
		{row(steam.Time(none, 1, to(1, 21))), api.Range},
		{row(steam.Time(none, 1, one(9))), api.Foul},
		{row(steam.Time(none, 1, to(2, 3))), api.Foul},
		{row(steam.Print(bad)), api.Range},
		{row(steam.Print(none)), api.Clear},
	} {
		if s := snagOf(t, x.results); s != x.want {
			t.Error(i, s)
		}
	}
}

// If nothing is found, what would tell it is zero, too.
func TestP0_2NotFound(t *testing.T) {
	b := parse(t, textO)
	if plan, ends, found, s := steam.Soonest(b); len(plan) > 0 || ends != to(0, 0) || found || s != api.Clear {
		t.Error(plan, ends, found, s)
	}
	if hands, found, s := steam.Fewest(b); hands != 0 || found || s != api.Clear {
		t.Error(hands, found, s)
	}
}

// It makes no difference whether a slice is nil or empty (R3).
func TestEmpty(t *testing.T) {
	b := parse(t, headV)
	e := clone(b)
	b.Notes, e.Notes = nil, []api.SteamNote{}
	n := news{x: to(1, 20)}
	m := n
	m.times, m.plan, m.note.Planks = []int{}, []int{}, []int{}
	two := calls(e, m)
	for i, c := range calls(b, n) {
		for k, x := range c.results {
			if !alike(t, x, two[i].results[k]) {
				t.Error(c, two[i])
			}
		}
	}
	b.Planks, e.Planks = nil, []api.SteamPlank{}
	if s, l := steam.CheckBook(b), steam.CheckBook(e); s != api.Many || l != api.Many {
		t.Error(s, l)
	}
	b, e = parse(t, headV), parse(t, headV)
	b.Notes, e.Notes = []api.SteamNote{{}}, []api.SteamNote{{Planks: []int{}}}
	if s, l := steam.CheckBook(b), steam.CheckBook(e); s != api.Many || l != api.Many {
		t.Error(s, l)
	}
}

// alike tells whether two results are equal, if it makes no difference whether a slice is nil or empty.
func alike(t *testing.T, x, y any) bool {
	t.Helper()
	if x, ok := x.(api.SteamBook); ok && len(x.Planks) > 0 {
		return printed(t, x) == printed(t, y.(api.SteamBook))
	}
	return isZero(x) && isZero(y) || reflect.DeepEqual(x, y)
}

// fill changes all memory of a list, also what is behind its end.
func fill[T any](list []T, x T) {
	list = list[:cap(list)]
	for i := range list {
		list[i] = x
	}
}

func roomy[T any](list []T) []T { return append(make([]T, 0, 9), list...) }

func roomyBook(t *testing.T, text string) api.SteamBook {
	t.Helper()
	b := parse(t, text)
	b.Planks, b.Notes = roomy(b.Planks), roomy(b.Notes)
	for i := range b.Notes {
		b.Notes[i].Planks = roomy(b.Notes[i].Planks)
	}
	return b
}

// spoil changes all memory of a book.
func spoil(b api.SteamBook) {
	for _, n := range b.Notes {
		fill(n.Planks, -7)
	}
	fill(b.Planks, api.SteamPlank{Hang: -7})
	fill(b.Notes, note(one(-7)))
}

// No argument is changed, and no result shares memory with one (R4).
func TestMemory(t *testing.T) {
	planks := roomy(on(0, 1))
	for i, change := range []func(b api.SteamBook) (api.SteamBook, api.Snag){
		func(b api.SteamBook) (api.SteamBook, api.Snag) { return steam.Time(b, 1, one(3)) },
		func(b api.SteamBook) (api.SteamBook, api.Snag) { return steam.Time(b, 1, to(1, 20)) },
		func(b api.SteamBook) (api.SteamBook, api.Snag) { return steam.Note(b, note(one(6), planks...)) },
	} {
		b := roomyBook(t, textV)
		now, s := change(b)
		if s != api.Clear || printed(t, b) != textV {
			t.Fatal(i, s, b)
		}
		if len(b.Notes[:2][1].Planks) > 0 || b.Planks[:4][3].Hang > 0 {
			t.Error(i, "what is behind the end of a list was changed", b)
		}
		after := printed(t, now)
		spoil(now)
		if printed(t, b) != textV || !slices.Equal(planks, on(0, 1)) {
			t.Error(i, b, planks)
		}
		now, _ = change(b)
		spoil(b)
		fill(planks, -7)
		if printed(t, now) != after {
			t.Error(i, now)
		}
		planks = roomy(on(0, 1))
	}
}

// The lists that are returned share no memory with a book, or with what is handed in.
func TestMemoryOfLists(t *testing.T) {
	b, times, plan := roomyBook(t, textV), roomy(on(4, 3, 3)), roomy(on(2, 1, 0))
	clash := roomyBook(t, textC)
	for i, find := range []func() []int{
		func() []int { l, _ := steam.Cold(b, times, plan); return l },
		func() []int { l, _ := steam.Times(b, 1); return l },
		func() []int { l, _, _, _ := steam.Soonest(b); return l },
		func() []int { l, _ := steam.Clash(clash); return l },
	} {
		want := slices.Clone(find())
		fill(find(), -7)
		if got := find(); len(want) == 0 || !slices.Equal(got, want) {
			t.Error(i, got, want)
		}
	}
	w, _ := steam.Work(b, times, plan)
	want := slices.Clone(w)
	fill(w, api.SteamWork{In: -7})
	if w, _ := steam.Work(b, times, plan); !slices.Equal(w, want) {
		t.Error(w, want)
	}
	if printed(t, b) != textV || printed(t, clash) != textC || !slices.Equal(times, on(4, 3, 3)) || !slices.Equal(plan, on(2, 1, 0)) {
		t.Error(b, clash, times, plan)
	}
}

// What is printed is parsed as an equal book, with or without its last line feed.
func TestP0_3Texts(t *testing.T) {
	eachBook(t, 300, func(t *testing.T, b api.SteamBook, o *oracle, r *rand.Rand) {
		text := printed(t, b)
		for _, s := range []string{text, strings.TrimSuffix(text, "\n")} {
			if now := parse(t, s); !reflect.DeepEqual(now, b) {
				t.Error(now)
			}
		}
	})
}

// Times that are really needed are a boat of each book that is right about them, and all that books tell of them is so.
func TestP0_4WhateverTheyAre(t *testing.T) {
	eachBook(t, 150, func(t *testing.T, b api.SteamBook, o *oracle, r *rand.Rand) {
		for _, l := range o.boats[:min(len(o.boats), 3)] {
			books := []api.SteamBook{b}
			learn := func(what string, now api.SteamBook, s api.Snag) {
				if s != api.Clear {
					t.Fatal(what, books[len(books)-1], l, s)
				}
				books = append(books, now)
				tellsRight(t, now, l, o.anyPlan(r))
			}
			tellsRight(t, b, l, o.anyPlan(r))
			for range api.MaxSteamNotes - len(b.Notes) {
				now, s := steam.Note(books[len(books)-1], noteAbout(r, l))
				learn("Note", now, s)
			}
			for plank, n := range l {
				now, s := steam.Time(books[len(books)-1], plank, to(max(n-r.Intn(3), 1), min(n+r.Intn(3), api.MaxSteamTicks)))
				learn("Time", now, s)
			}
		}
	})
}

// What becomes known makes nothing possible that was not, and takes back nothing that was sure.
func TestP0_6KnowingMore(t *testing.T) {
	tried := 0
	eachBook(t, 250, func(t *testing.T, b api.SteamBook, o *oracle, r *rand.Rand) {
		for _, now := range knowingMore(r, b) {
			knowsMore(t, b, now, o.anyPlan(r))
			tried++
		}
	})
	if tried < 400 {
		t.Error("too few books", tried)
	}
}

// knowingMore returns books of which something more is known.
func knowingMore(r *rand.Rand, b api.SteamBook) (books []api.SteamBook) {
	for range 3 {
		n := likelyNews(r, b)
		if now, s := steam.Time(b, n.plank, n.x); s == api.Clear {
			books = append(books, now)
		}
		if now, s := steam.Note(b, n.note); s == api.Clear {
			books = append(books, now)
		}
	}
	return books
}

func knowsMore(t *testing.T, b, now api.SteamBook, plan []int) {
	t.Helper()
	many, _ := steam.Boats(b)
	if n, _ := steam.Boats(now); n > many || n == 0 {
		t.Error("Boats", b, now, many, n)
	}
	for plank := range b.Planks {
		before, _ := steam.Times(b, plank)
		after, _ := steam.Times(now, plank)
		for _, n := range after {
			if !slices.Contains(before, n) {
				t.Error("Times", b, now, plank, n)
			}
		}
		was, _ := steam.Hung(b, plan, plank)
		if sure, _ := steam.Hung(now, plan, plank); was != api.Open && sure != was {
			t.Error("Hung", b, now, plan, plank, was, sure)
		}
	}
	was, _ := steam.Good(b, plan)
	if sure, _ := steam.Good(now, plan); was != api.Open && sure != was {
		t.Error("Good", b, now, plan, was, sure)
	}
	before, _ := steam.Ends(b, plan)
	if after, _ := steam.Ends(now, plan); after.Low < before.Low || after.High > before.High {
		t.Error("Ends", b, now, plan, before, after)
	}
	// what was good for sure still is; perhaps more is, or ends sooner
	plans, _ := steam.Plans(b)
	if n, _ := steam.Plans(now); n < plans {
		t.Error("Plans", b, now, plans, n)
	}
	_, ends, found, _ := steam.Soonest(b)
	if _, x, too, _ := steam.Soonest(now); found && (!too || x.High > ends.High) {
		t.Error("Soonest", b, now, ends, x, too)
	}
	hands, found, _ := steam.Fewest(b)
	if n, too, _ := steam.Fewest(now); found && (!too || n > hands) {
		t.Error("Fewest", b, now, hands, n, too)
	}
}
