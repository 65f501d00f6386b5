package spile_test

import (
	"math/rand"
	"reflect"
	"slices"
	"strings"
	"sync"
	"testing"

	"ribband/api"
	"ribband/spile"
)

// call is a function that was called; its results come with the snag last.
type call struct {
	name    string
	results []any
}

func row(results ...any) []any { return results }

// news is what is asked about a book, or becomes known.
type news struct {
	point int
	marks []int
	slip  api.SpileSlip
	gaps  []int
	x     api.Span
	check api.SpileCheck
}

// calls calls each function that has a book among its arguments.
func calls(b api.SpileBook, n news) []call {
	return []call{
		{"CheckBook", row(spile.CheckBook(b))},
		{"Gaps", row(spile.Gaps(b, n.marks, n.slip))},
		{"IsBoat", row(spile.IsBoat(b, n.marks, n.slip))},
		{"Boats", row(spile.Boats(b))},
		{"Slipped", row(spile.Slipped(b))},
		{"When", row(spile.When(b))},
		{"Slips", row(spile.Slips(b))},
		{"Gap", row(spile.Gap(b, n.point))},
		{"Shifts", row(spile.Shifts(b, n.gaps))},
		{"Room", row(spile.Room(b))},
		{"Had", row(spile.Had(b))},
		{"Surely", row(spile.Surely(b))},
		{"Most", row(spile.Most(b))},
		{"Clash", row(spile.Clash(b))},
		{"Ask", row(spile.Ask(b))},
		{"Check", row(spile.Check(b, n.check))},
		{"Read", row(spile.Read(b, n.point, n.x))},
		{"Firm", row(spile.Firm(b, n.slip.By))},
		{"Print", row(spile.Print(b))},
	}
}

func isZero(v any) bool {
	r := reflect.ValueOf(v)
	return r.IsZero() || r.Kind() == reflect.Slice && r.Len() == 0
}

// snagOf returns the snag of results, which are zero if there is one.
func snagOf(t *testing.T, results []any) api.Snag {
	t.Helper()
	last := len(results) - 1
	s := results[last].(api.Snag)
	if s != api.Clear && slices.ContainsFunc(results[:last], func(v any) bool { return !isZero(v) }) {
		t.Error("with a snag there is a result", results)
	}
	return s
}

var strange = []int{least, -1000, -200, -199, -4, -3, -1, 0, 1, 2, 3, 4, 5, 6, 7, 10, 12, 99, 100, 199, 200, 1 << 40, most}

func pick(r *rand.Rand) int { return strange[r.Intn(len(strange))] }

func strangeList(r *rand.Rand) (list []int) {
	for range r.Intn(6) {
		list = append(list, pick(r))
	}
	return list
}

func strangeNews(r *rand.Rand) news {
	return news{pick(r), strangeList(r), slip(pick(r), pick(r)), strangeList(r), to(pick(r), pick(r)), check(pick(r), to(pick(r), pick(r)))}
}

// likelyNews is what a book often has an answer to.
func likelyNews(r *rand.Rand, b api.SpileBook) news {
	n := news{point: r.Intn(len(b.Points)), marks: randomMarks(r, b), slip: randomSlip(r, b)}
	n.gaps = gapsOf(b, n.marks, n.slip)
	n.x, n.check = around(r, n.marks[n.point], 0, api.MaxSpileMark), checkOf(r, n.gaps)
	return n
}

func strangeBook(r *rand.Rand) api.SpileBook {
	b := randomBook(r)
	n := strangeNews(r)
	point := r.Intn(len(b.Points))
	switch r.Intn(11) {
	case 0:
		b.Opening = pick(r)
	case 1:
		b.Slip = pick(r)
	case 2:
		b.Points[point].Mark = n.x
	case 3:
		b.Points[point].Board = n.x
	case 4:
		b.Points[point].Width = pick(r)
	case 5:
		b.Points = append(b.Points, b.Points[point])
	case 6:
		b.Points = append(b.Points, make([]api.SpilePoint, r.Intn(4))...)
	case 7:
		b.Points = b.Points[:point]
	case 8:
		b.Checks = append(b.Checks, n.check)
	case 9:
		b.Checks = append(b.Checks, make([]api.SpileCheck, r.Intn(4))...)
	case 10:
		for i := range b.Checks {
			b.Checks[i].Gap = n.x
		}
	}
	return b
}

func TestP0_1Always(t *testing.T) {
	r := rand.New(rand.NewSource(1))
	for range 1500 {
		b, n := strangeBook(r), strangeNews(r)
		if r.Intn(3) == 0 {
			b = randomBook(r)
			if r.Intn(2) == 0 {
				n = likelyNews(r, b)
			}
		}
		was, with := clone(b), n
		with.marks, with.gaps = slices.Clone(n.marks), slices.Clone(n.gaps)
		if !reflect.DeepEqual(calls(b, n), calls(b, n)) || !reflect.DeepEqual(b, was) || !reflect.DeepEqual(n, with) {
			t.Fatal(b, n)
		}
	}
	for _, text := range []string{"", "\x00", "spile", "spile 1 1\npoint", strings.Repeat("\xff ", 9), strings.Repeat("check 0..", 999), "spile 9 1\n" + strings.Repeat("point 1 1 1\n", 999), "spile 9 1\ncheck " + strings.Repeat("9", 9999) + " 1\n"} {
		b, line, s := spile.Parse(text)
		if c, other, again := spile.Parse(text); s == api.Clear || other != line || again != s || !reflect.DeepEqual(b, c) {
			t.Errorf("%.60q: %v %v", text, line, s)
		}
	}
	long, many := parse(t, textP), make([]int, 1<<20)
	if l, s := spile.Gaps(long, many, none()); len(l) > 0 || s != api.Many {
		t.Error(l, s)
	}
	if x, found, s := spile.Shifts(long, many); x != one(0) || found || s != api.Many {
		t.Error(x, found, s)
	}
	long.Checks = make([]api.SpileCheck, 1<<20)
	if s := spile.CheckBook(long); s != api.Many {
		t.Error(s)
	}
	long.Points = make([]api.SpilePoint, 1<<20)
	if s := spile.CheckBook(long); s != api.Many {
		t.Error(s)
	}
}

func TestP0_1Together(t *testing.T) {
	b, wide, foul := parse(t, textP), parse(t, textO), parse(t, textC)
	n := news{point: 1, marks: list(4, 5, 4), slip: slip(2, 1), gaps: list(6, 4, 7), x: to(5, 6), check: check(1, to(4, 5))}
	all := func() []call { return slices.Concat(calls(b, n), calls(wide, n), calls(foul, n)) }
	want := all()
	var group sync.WaitGroup
	for range 16 {
		group.Add(1)
		go func() {
			defer group.Done()
			for range 30 {
				if got := all(); !reflect.DeepEqual(got, want) {
					t.Error(got)
				}
			}
		}()
	}
	group.Wait()
}

// The book's snag comes first, and with a snag all other results are zero.
func TestP0_2Snags(t *testing.T) {
	r := rand.New(rand.NewSource(3))
	seen := map[api.Snag]int{}
	for range 2000 {
		b := strangeBook(r)
		want := spile.CheckBook(b)
		seen[want]++
		for _, c := range calls(b, strangeNews(r)) {
			if s := snagOf(t, c.results); want != api.Clear && s != want {
				t.Fatal(c, b, s)
			}
		}
	}
	for _, s := range []api.Snag{api.Clear, api.Range, api.Many, api.Absent} {
		if seen[s] < 30 {
			t.Error("the books are too much alike", seen)
		}
	}
}

// The snags of what is handed in come before what is said of a function, and that before Foul.
func TestP0_2Order(t *testing.T) {
	foul := parse(t, textP+"check 2 9\n")
	full := parse(t, textF+strings.Repeat("check 0 6\n", api.MaxSpileChecks))
	bad := clone(foul)
	bad.Slip = 4
	good := list(4, 5, 4)
	for i, x := range []struct {
		results []any
		want    api.Snag
	}{
		{row(spile.CheckBook(foul)), api.Clear},
		{row(spile.CheckBook(bad)), api.Range},
		{row(spile.Gaps(bad, nil, slip(9, 9))), api.Range},
		{row(spile.Gaps(foul, list(4, 100), slip(9, 9))), api.Many},
		{row(spile.Gaps(foul, list(4, 5, 100), slip(9, 9))), api.Range},
		{row(spile.Gaps(foul, good, slip(9, 9))), api.Absent},
		{row(spile.Gaps(foul, good, none())), api.Clear},
		{row(spile.IsBoat(bad, nil, slip(9, 9))), api.Range},
		{row(spile.IsBoat(foul, list(4, 100), slip(9, 9))), api.Many},
		{row(spile.IsBoat(foul, list(4, 5, 100), slip(9, 9))), api.Range},
		{row(spile.IsBoat(foul, good, slip(9, 9))), api.Absent},
		{row(spile.IsBoat(foul, good, none())), api.Clear},
		{row(spile.Boats(bad)), api.Range},
		{row(spile.Boats(foul)), api.Clear},
		{row(spile.Slipped(bad)), api.Range},
		{row(spile.Slipped(foul)), api.Foul},
		{row(spile.When(bad)), api.Range},
		{row(spile.When(foul)), api.Foul},
		{row(spile.Slips(bad)), api.Range},
		{row(spile.Slips(foul)), api.Foul},
		{row(spile.Gap(bad, 3)), api.Range},
		{row(spile.Gap(foul, 3)), api.Absent},
		{row(spile.Gap(foul, 2)), api.Foul},
		{row(spile.Shifts(bad, nil)), api.Range},
		{row(spile.Shifts(foul, list(6, 200))), api.Many},
		{row(spile.Shifts(foul, list(6, 5, 200))), api.Range},
		{row(spile.Shifts(foul, list(6, 5, 6))), api.Clear},
		{row(spile.Room(bad)), api.Range},
		{row(spile.Room(foul)), api.Clear},
		{row(spile.Had(bad)), api.Range},
		{row(spile.Had(foul)), api.Foul},
		{row(spile.Surely(bad)), api.Range},
		{row(spile.Surely(foul)), api.Foul},
		{row(spile.Most(bad)), api.Range},
		{row(spile.Most(foul)), api.Foul},
		{row(spile.Clash(bad)), api.Range},
		{row(spile.Clash(foul)), api.Clear},
		{row(spile.Ask(bad)), api.Range},
		{row(spile.Ask(foul)), api.Foul},
		{row(spile.Check(bad, check(3, one(6)))), api.Range},
		{row(spile.Check(full, check(3, to(1, 0)))), api.Many}, // how many there are comes before each of them
		{row(spile.Check(foul, check(3, to(1, 0)))), api.Absent},
		{row(spile.Check(foul, check(2, to(1, 0)))), api.Range},
		{row(spile.Check(foul, check(2, one(6)))), api.Foul},
		{row(spile.Read(bad, 3, to(1, 0))), api.Range},
		{row(spile.Read(foul, 3, to(1, 0))), api.Absent},
		{row(spile.Read(foul, 1, to(1, 0))), api.Range},
		{row(spile.Read(foul, 1, to(0, 100))), api.Range},
		{row(spile.Read(foul, 1, one(9))), api.Foul},
		{row(spile.Read(foul, 1, to(5, 6))), api.Foul},
		{row(spile.Firm(bad, 3)), api.Range},
		{row(spile.Firm(foul, 2)), api.Range},
		{row(spile.Firm(foul, -1)), api.Range},
		{row(spile.Firm(foul, 1)), api.Foul},
		{row(spile.Print(bad)), api.Range},
		{row(spile.Print(foul)), api.Clear},
	} {
		if s := snagOf(t, x.results); s != x.want {
			t.Error(i, s)
		}
	}
	if bad.Slip, bad.Points = 1, bad.Points[:1]; spile.CheckBook(bad) != api.Many {
		t.Fatal(bad)
	}
	for _, c := range calls(bad, news{}) { // this book has another snag than what is asked about
		if s := snagOf(t, c.results); s != api.Many {
			t.Error(c.name, s)
		}
	}
}

// If nothing is found, what would tell it is zero, too.
func TestP0_2NotFound(t *testing.T) {
	for _, text := range []string{textN, textS} {
		b := parse(t, text)
		if x, found, s := spile.Shifts(b, list(1, 1)); x != one(0) || found || s != api.Clear {
			t.Error(x, found, s)
		}
		if n, found, s := spile.Surely(b); n != 0 || found || s != api.Clear {
			t.Error(n, found, s)
		}
		if n, many, s := spile.Most(b); n != 0 || many != 0 || s != api.Clear {
			t.Error(n, many, s)
		}
	}
	if n, found, s := spile.Surely(parse(t, textO)); n != 0 || found || s != api.Clear {
		t.Error(n, found, s)
	}
}

// It makes no difference whether a slice is nil or empty (R3).
func TestEmpty(t *testing.T) {
	b := parse(t, textF)
	b.Checks = nil
	with := b
	with.Checks = []api.SpileCheck{}
	n := news{point: 1, marks: list(4, 5, 4), gaps: list(6, 5, 6), x: to(5, 6), check: check(1, one(5))}
	again := calls(with, n)
	for i, c := range calls(b, n) {
		if !alike(t, c.results, again[i].results) {
			t.Error(c, again[i])
		}
	}
	with.Points = []api.SpilePoint{}
	if s := spile.CheckBook(with); s != api.Many {
		t.Error(s)
	}
	if l, s := spile.Gaps(b, []int{}, none()); len(l) > 0 || s != api.Many {
		t.Error(l, s)
	}
	if x, found, s := spile.Shifts(b, []int{}); x != one(0) || found || s != api.Many {
		t.Error(x, found, s)
	}
}

// alike tells whether results are equal, if it makes no difference whether a slice is nil or empty.
func alike(t *testing.T, x, y []any) bool {
	t.Helper()
	return slices.EqualFunc(x, y, func(x, y any) bool {
		if b, ok := x.(api.SpileBook); ok && len(b.Points) > 0 {
			return printed(t, b) == printed(t, y.(api.SpileBook))
		}
		return isZero(x) && isZero(y) || reflect.DeepEqual(x, y)
	})
}

// fill changes all memory of a list, also what is behind its end.
func fill[T any](list []T, x T) {
	list = list[:cap(list)]
	for i := range list {
		list[i] = x
	}
}

func roomy[T any](list []T) []T { return append(make([]T, 0, 9), list...) }

// spoil changes all memory of a book.
func spoil(b api.SpileBook) {
	fill(b.Points, api.SpilePoint{Width: -7})
	fill(b.Checks, check(-7, one(-7)))
}

// No argument is changed, and no result shares memory with one (R4).
func TestMemory(t *testing.T) {
	for i, change := range []func(b api.SpileBook) (api.SpileBook, api.Snag){
		func(b api.SpileBook) (api.SpileBook, api.Snag) { return spile.Check(b, check(1, to(4, 5))) },
		func(b api.SpileBook) (api.SpileBook, api.Snag) { return spile.Read(b, 1, one(5)) },
		func(b api.SpileBook) (api.SpileBook, api.Snag) { return spile.Read(b, 1, to(0, 99)) },
		func(b api.SpileBook) (api.SpileBook, api.Snag) { return spile.Firm(b, 0) },
		func(b api.SpileBook) (api.SpileBook, api.Snag) { return spile.Firm(b, 1) },
	} {
		b := parse(t, textP)
		b.Points, b.Checks = roomy(b.Points), roomy(b.Checks)
		now, s := change(b)
		if s != api.Clear || printed(t, b) != textP {
			t.Fatal(i, s, b)
		}
		if b.Checks[:2][1] != (api.SpileCheck{}) || b.Points[:4][3] != (api.SpilePoint{}) {
			t.Error(i, "what is behind the end of a list was changed", b)
		}
		after := printed(t, now)
		spoil(now)
		if printed(t, b) != textP {
			t.Error(i, b)
		}
		now, _ = change(b)
		spoil(b)
		if printed(t, now) != after {
			t.Error(i, now)
		}
	}
}

// The lists that are returned share no memory with a book, or with what is handed in.
func TestMemoryOfLists(t *testing.T) {
	b, marks, gaps := parse(t, textP), roomy(list(4, 5, 4)), roomy(list(6, 5, 6))
	b.Points, b.Checks = roomy(b.Points), roomy(b.Checks)
	for _, find := range []func() []int{
		func() []int { l, _ := spile.Gaps(b, marks, none()); return l },
		func() []int { l, _ := spile.When(b); return l },
		func() []int { l, _ := spile.Gap(b, 1); return l },
		func() []int { l, _ := spile.Clash(parse(t, textC)); return l },
	} {
		want := slices.Clone(find())
		fill(find(), -7)
		if got := find(); len(got) == 0 || !slices.Equal(got, want) {
			t.Error(got, want)
		}
	}
	slips, _ := spile.Slips(b)
	fill(slips, slip(-7, -7))
	if slips, s := spile.Slips(b); len(slips) != 2 || slips[0] != slip(1, 1) || s != api.Clear {
		t.Error(slips, s)
	}
	if _, _, s := spile.Shifts(b, gaps); s != api.Clear {
		t.Error(s)
	}
	if printed(t, b) != textP || !slices.Equal(marks, list(4, 5, 4)) || !slices.Equal(gaps, list(6, 5, 6)) {
		t.Error(b, marks, gaps)
	}
}

// What is printed is parsed as an equal book, with or without its last line feed.
func TestP0_3Texts(t *testing.T) {
	eachBook(t, 300, func(t *testing.T, b api.SpileBook, o *oracle, r *rand.Rand) {
		text := printed(t, b)
		for _, s := range []string{text, strings.TrimSuffix(text, "\n")} {
			if now := parse(t, s); !reflect.DeepEqual(now, b) {
				t.Error(now)
			}
		}
	})
}

// What the marks and the compass really are is a boat of each book that is right about them, and all that books tell is so.
func TestP0_4WhateverTheyAre(t *testing.T) {
	learned := 0
	eachBook(t, 150, func(t *testing.T, b api.SpileBook, o *oracle, r *rand.Rand) {
		for range min(len(o.ships), 4) {
			x := o.ships[r.Intn(len(o.ships))]
			now := b
			learn := func(what string, next api.SpileBook, s api.Snag) {
				if s != api.Clear {
					t.Fatal(what, now, x, s)
				}
				now = next
				learned++
				tellsRight(t, now, x.marks, x.slip)
			}
			tellsRight(t, b, x.marks, x.slip)
			for range api.MaxSpileChecks - len(b.Checks) {
				next, s := spile.Check(now, checkOf(r, x.gaps))
				learn("Check", next, s)
			}
			for point, mark := range x.marks {
				next, s := spile.Read(now, point, to(max(mark-r.Intn(3), 0), min(mark+r.Intn(3), api.MaxSpileMark)))
				learn("Read", next, s)
			}
			much := max(x.slip.By, -x.slip.By)
			next, s := spile.Firm(now, much+r.Intn(now.Slip-much+1))
			learn("Firm", next, s)
		}
	})
	if learned < 1000 {
		t.Error("too little news", learned)
	}
}

// What becomes known makes nothing possible that was not, and takes back nothing that was sure.
func TestP0_6KnowingMore(t *testing.T) {
	tried := 0
	eachBook(t, 300, func(t *testing.T, b api.SpileBook, o *oracle, r *rand.Rand) {
		for _, now := range knowingMore(r, b) {
			knowsMore(t, b, now)
			tried++
		}
	})
	if tried < 1000 {
		t.Error("too few books", tried)
	}
}

// knowingMore returns books of which something more is known.
func knowingMore(r *rand.Rand, b api.SpileBook) (books []api.SpileBook) {
	for range 3 {
		point := r.Intn(len(b.Points))
		low := some(r, b.Points[point].Mark)
		if now, s := spile.Read(b, point, to(low, min(low+r.Intn(2), api.MaxSpileMark))); s == api.Clear {
			books = append(books, now)
		}
		if now, s := spile.Check(b, checkOf(r, gapsOf(b, randomMarks(r, b), randomSlip(r, b)))); s == api.Clear {
			books = append(books, now)
		}
		if now, s := spile.Firm(b, r.Intn(b.Slip+1)); s == api.Clear {
			books = append(books, now)
		}
	}
	return books
}

// isPart tells whether all elements of a list are in another one.
func isPart[T comparable](list, of []T) bool {
	return !slices.ContainsFunc(list, func(x T) bool { return !slices.Contains(of, x) })
}

func knowsMore(t *testing.T, b, now api.SpileBook) {
	t.Helper()
	many, _ := spile.Boats(b)
	if n, _ := spile.Boats(now); n > many || n == 0 {
		t.Error("Boats", b, now, many, n)
	}
	for point := range b.Points {
		before, _ := spile.Gap(b, point)
		if after, _ := spile.Gap(now, point); !isPart(after, before) {
			t.Error("Gap", b, now, point, before, after)
		}
	}
	when, _ := spile.When(b)
	if after, _ := spile.When(now); !isPart(after, when) {
		t.Error("When", b, now, when, after)
	}
	slips, _ := spile.Slips(b)
	if after, _ := spile.Slips(now); !isPart(after, slips) {
		t.Error("Slips", b, now, slips, after)
	}
	for name, question := range map[string]func(api.SpileBook) (api.Sure, api.Snag){"Slipped": spile.Slipped, "Had": spile.Had} {
		before, _ := question(b)
		if sure, s := question(now); before != api.Open && sure != before || s != api.Clear {
			t.Error(name, b, now, before, sure, s)
		}
	}
	shift, found, _ := spile.Surely(b)
	after, still, _ := spile.Surely(now)
	// what surely did still does; with fewer boats a lesser number does, perhaps
	if found && (!still || after > shift) {
		t.Error("Surely", b, now, shift, after, still)
	}
	for _, x := range shipsOf(now) {
		if found && !lie(now, x.gaps, shift) {
			t.Error("Surely", b, now, shift, x)
		}
	}
	_, boats, _ := spile.Most(b)
	if _, n, _ := spile.Most(now); n > boats {
		t.Error("Most", b, now, boats, n)
	}
}
