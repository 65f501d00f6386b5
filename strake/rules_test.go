package strake_test

import (
	"math/rand"
	"reflect"
	"slices"
	"strings"
	"sync"
	"testing"

	"ribband/api"
	"ribband/strake"
)

func row(results ...any) []any { return results }

// news is what is asked about a book, or becomes known.
type news struct {
	frame, strake int
	girths        []int
	plan          [][]int
	x             api.Span
	mark          api.StrakeMark
}

// calls calls each function that has a book among its arguments; the results come with the snag last.
func calls(b api.StrakeBook, n news) [][]any {
	return [][]any{
		row(strake.CheckBook(b)),
		row(strake.IsPlan(b, n.girths, n.plan)),
		row(strake.Fair(b, n.girths)),
		row(strake.Plans(b, n.girths)),
		row(strake.Plan(b, n.girths)),
		row(strake.Straightest(b, n.girths)),
		row(strake.IsBoat(b, n.girths)),
		row(strake.Boats(b)),
		row(strake.Sound(b)),
		row(strake.Girths(b, n.frame)),
		row(strake.Widths(b, n.frame, n.strake)),
		row(strake.Numbers(b)),
		row(strake.Clash(b)),
		row(strake.Ask(b)),
		row(strake.Mark(b, n.mark)),
		row(strake.Measure(b, n.frame, n.x)),
		row(strake.Print(b)),
	}
}

func isZero(v any) bool {
	r := reflect.ValueOf(v)
	return r.IsZero() || r.Kind() == reflect.Slice && r.Len() == 0
}

func snagOf(t *testing.T, results []any) api.Snag {
	t.Helper()
	last := len(results) - 1
	s := results[last].(api.Snag)
	if s != api.Clear && slices.ContainsFunc(results[:last], func(v any) bool { return !isZero(v) }) {
		t.Error("with a snag there is a result", results)
	}
	return s
}

var strange = []int{least, -1000, -1, 0, 1, 2, 3, 4, 5, 6, 7, 20, 21, 99, 100, 1 << 40, most}

func pick(r *rand.Rand) int { return strange[r.Intn(len(strange))] }

func strangeList(r *rand.Rand) (list []int) {
	for range r.Intn(6) {
		list = append(list, pick(r))
	}
	return list
}

func strangeNews(r *rand.Rand) news {
	n := news{frame: pick(r), strake: pick(r), girths: strangeList(r), x: to(pick(r), pick(r))}
	n.mark = mark(pick(r), pick(r), to(pick(r), pick(r)))
	for range r.Intn(6) {
		n.plan = append(n.plan, strangeList(r))
	}
	return n
}

// likelyNews is what a book often has an answer to.
func likelyNews(r *rand.Rand, b api.StrakeBook) news {
	n := news{frame: r.Intn(len(b.Girths)), strake: r.Intn(b.Strakes), girths: randomGirths(r, b), plan: randomPlan(r, b, len(b.Girths))}
	if r.Intn(2) == 0 {
		n.girths = girthsOf(n.plan)
	}
	n.x, n.mark = b.Girths[n.frame], markAbout(r, n.plan)
	return n
}

func strangeBook(r *rand.Rand) api.StrakeBook {
	b := randomBook(r)
	n := strangeNews(r)
	switch r.Intn(10) {
	case 0:
		b.Strakes = pick(r)
	case 1:
		b.Least = pick(r)
	case 2:
		b.Most = pick(r)
	case 3:
		b.Taper = pick(r)
	case 4:
		b.Bend = pick(r)
	case 5:
		b.Girths[r.Intn(len(b.Girths))] = n.x
	case 6:
		b.Girths = append(b.Girths, make([]api.Span, r.Intn(4))...)
	case 7:
		b.Girths = b.Girths[:r.Intn(len(b.Girths))]
	case 8:
		b.Marks = append(b.Marks, n.mark)
	case 9:
		b.Marks = append(b.Marks, make([]api.StrakeMark, r.Intn(5))...)
	}
	return b
}

func copyPlan(p [][]int) [][]int {
	p = slices.Clone(p)
	for i := range p {
		p[i] = slices.Clone(p[i])
	}
	return p
}

func TestP0_1Always(t *testing.T) {
	r := rand.New(rand.NewSource(1))
	for range 1500 {
		b, n := strangeBook(r), strangeNews(r)
		if r.Intn(3) == 0 {
			b = randomBook(r)
			if r.Intn(2) == 0 {
				n = likelyNews(r, b)
			}
		}
		was, girths, plan := clone(b), slices.Clone(n.girths), copyPlan(n.plan)
		if !reflect.DeepEqual(calls(b, n), calls(b, n)) || !reflect.DeepEqual(b, was) {
			t.Fatal(b, n)
		}
		if !slices.Equal(n.girths, girths) || !samePlan(n.plan, plan) {
			t.Fatal(b, n)
		}
		girth, strakes := pick(r), pick(r)
		one, two := row(strake.Equal(girth, strakes)), row(strake.Equal(girth, strakes))
		if !reflect.DeepEqual(one, two) {
			t.Fatal(girth, strakes)
		}
	}
	for _, text := range []string{"", "\x00", "strake", "strake 1 1 1 1 1\ngirth", strings.Repeat("\xff ", 9), strings.Repeat("mark 0..", 999)} {
		b, line, s := strake.Parse(text)
		if c, other, again := strake.Parse(text); s == api.Clear || other != line || again != s || !reflect.DeepEqual(b, c) {
			t.Errorf("%q: %v %v", text, line, s)
		}
	}
	long := parse(t, textS)
	long.Girths, long.Marks = make([]api.Span, 1<<20), make([]api.StrakeMark, 1<<20)
	if s := strake.CheckBook(long); s != api.Many {
		t.Error(s)
	}
	long.Girths = long.Girths[:3]
	if s := strake.CheckBook(long); s != api.Many {
		t.Error(s)
	}
	if is, s := strake.IsPlan(parse(t, textS), []int{6, 7, 7}, make([][]int, 1<<20)); is || s != api.Many {
		t.Error(is, s)
	}
}

func TestP0_1Together(t *testing.T) {
	b, foul := parse(t, textS), parse(t, textC)
	n := news{girths: []int{6, 7, 7}, plan: plan(row2(3, 3), row2(3, 4), row2(3, 4)), x: one(6), mark: mark(1, 0, one(4))}
	all := func() [][]any { return slices.Concat(calls(b, n), calls(foul, n)) }
	want := all()
	var group sync.WaitGroup
	for range 16 {
		group.Add(1)
		go func() {
			defer group.Done()
			for range 30 {
				if got := all(); !reflect.DeepEqual(got, want) {
					t.Error(got)
				}
			}
		}()
	}
	group.Wait()
}

// The book's snag comes first, and with a snag all other results are zero.
func TestP0_2Snags(t *testing.T) {
	r := rand.New(rand.NewSource(3))
	seen := map[api.Snag]int{}
	for range 2000 {
		b := strangeBook(r)
		want := strake.CheckBook(b)
		seen[want]++
		for i, results := range calls(b, strangeNews(r)) {
			if s := snagOf(t, results); want != api.Clear && s != want {
				t.Fatal(i, b, s)
			}
		}
		snagOf(t, row(strake.Equal(pick(r), pick(r))))
	}
	for _, s := range []api.Snag{api.Clear, api.Range, api.Many, api.Absent} {
		if seen[s] < 50 {
			t.Error("the books are too much alike", seen)
		}
	}
}

// The snags of what is handed in come before what is said of a function, and that before Foul.
func TestP0_2Order(t *testing.T) {
	none, scant := parse(t, textC), parse(t, textN)
	full := parse(t, girthsS+strings.Repeat("mark 0 1 3\n", 3))
	bad := clone(none)
	bad.Taper = 10
	good, rows := []int{6, 7, 7}, plan(row2(3, 3), row2(3, 4), row2(3, 4))
	for i, x := range []struct {
		results []any
		want    api.Snag
	}{
		{row(strake.CheckBook(none)), api.Clear},
		{row(strake.CheckBook(bad)), api.Range},
		{row(strake.IsPlan(bad, nil, nil)), api.Range},
		{row(strake.IsPlan(none, nil, nil)), api.Many},
		{row(strake.IsPlan(none, []int{6, 7, 100}, nil)), api.Range},
		{row(strake.IsPlan(none, good, rows[:2])), api.Many},
		{row(strake.IsPlan(none, good, plan(row2(3, 21), row2(3, 4), row2(3, 4)))), api.Range},
		{row(strake.IsPlan(none, good, rows)), api.Clear},
		{row(strake.Fair(bad, nil)), api.Range},
		{row(strake.Fair(none, nil)), api.Many},
		{row(strake.Fair(none, []int{-1, 7, 7})), api.Range},
		{row(strake.Fair(none, good)), api.Clear},
		{row(strake.Plans(bad, nil)), api.Range},
		{row(strake.Plans(none, []int{6})), api.Many},
		{row(strake.Plans(none, []int{6, 7, 100})), api.Range},
		{row(strake.Plans(none, good)), api.Clear},
		{row(strake.Plan(bad, nil)), api.Range},
		{row(strake.Plan(none, []int{6})), api.Many},
		{row(strake.Plan(none, []int{6, 7, 100})), api.Range},
		{row(strake.Plan(none, good)), api.Clear},
		{row(strake.Straightest(bad, nil)), api.Range},
		{row(strake.Straightest(none, []int{6})), api.Many},
		{row(strake.Straightest(none, []int{6, 7, 100})), api.Range},
		{row(strake.Straightest(none, good)), api.Clear},
		{row(strake.IsBoat(bad, nil)), api.Range},
		{row(strake.IsBoat(none, []int{6})), api.Many},
		{row(strake.IsBoat(none, []int{6, 7, 100})), api.Range},
		{row(strake.IsBoat(none, good)), api.Clear},
		{row(strake.Boats(bad)), api.Range},
		{row(strake.Boats(none)), api.Clear},
		{row(strake.Boats(scant)), api.Clear},
		{row(strake.Sound(bad)), api.Range},
		{row(strake.Sound(none)), api.Clear},
		{row(strake.Sound(scant)), api.Scant},
		{row(strake.Girths(bad, 3)), api.Range},
		{row(strake.Girths(none, 3)), api.Absent},
		{row(strake.Girths(none, 2)), api.Foul},
		{row(strake.Girths(scant, -1)), api.Absent},
		{row(strake.Girths(scant, 0)), api.Foul},
		{row(strake.Widths(bad, 3, 0)), api.Range},
		{row(strake.Widths(none, 3, 0)), api.Absent},
		{row(strake.Widths(none, 0, 2)), api.Absent},
		{row(strake.Widths(none, 2, 1)), api.Foul},
		{row(strake.Widths(scant, 2, 1)), api.Foul},
		{row(strake.Numbers(bad)), api.Range},
		{row(strake.Numbers(none)), api.Clear},
		{row(strake.Numbers(scant)), api.Scant},
		{row(strake.Clash(bad)), api.Range},
		{row(strake.Clash(none)), api.Clear},
		{row(strake.Clash(scant)), api.Scant},
		{row(strake.Ask(bad)), api.Range},
		{row(strake.Ask(none)), api.Foul},
		{row(strake.Ask(scant)), api.Foul},
		{row(strake.Mark(bad, mark(3, 0, to(1, 0)))), api.Range},
		{row(strake.Mark(full, mark(3, 0, to(1, 0)))), api.Many}, // how many there are comes before each of them
		{row(strake.Mark(none, mark(3, 0, to(1, 0)))), api.Absent},
		{row(strake.Mark(none, mark(0, 2, to(1, 0)))), api.Absent},
		{row(strake.Mark(none, mark(0, 1, to(1, 0)))), api.Range},
		{row(strake.Mark(none, mark(0, 1, one(3)))), api.Foul},
		{row(strake.Measure(bad, 3, to(1, 0))), api.Range},
		{row(strake.Measure(none, 3, to(1, 0))), api.Absent},
		{row(strake.Measure(none, 0, to(1, 0))), api.Range},
		{row(strake.Measure(none, 0, to(0, 100))), api.Range},
		{row(strake.Measure(none, 0, one(9))), api.Foul},
		{row(strake.Measure(none, 0, to(5, 6))), api.Foul},
		{row(strake.Print(bad)), api.Range},
		{row(strake.Print(none)), api.Clear},
		{row(strake.Equal(100, 5)), api.Range},
	} {
		if s := snagOf(t, x.results); s != x.want {
			t.Error(i, s)
		}
	}
}

// If no plan is found, what would tell it is zero, too.
func TestP0_2NotFound(t *testing.T) {
	b := parse(t, textC)
	for _, g := range [][]int{{6, 7, 7}, {0, 0, 0}, {99, 99, 99}, {4, 7, 7}} {
		if p, found, s := strake.Plan(b, g); len(p) > 0 || found || s != api.Clear {
			t.Error(g, p, found, s)
		}
		if p, n, found, s := strake.Straightest(b, g); len(p) > 0 || n != 0 || found || s != api.Clear {
			t.Error(g, p, n, found, s)
		}
	}
}

// It makes no difference whether a slice is nil or empty (R3).
func TestEmpty(t *testing.T) {
	b := parse(t, girthsS)
	e := clone(b)
	b.Marks, e.Marks = nil, []api.StrakeMark{}
	n := news{x: one(6), mark: mark(1, 0, one(4))}
	m := n
	m.girths, m.plan = []int{}, [][]int{}
	one, two := calls(b, n), calls(e, m)
	for i := range one {
		for k := range one[i] {
			x, ok := one[i][k].(api.StrakeBook)
			if y, _ := two[i][k].(api.StrakeBook); ok {
				if printed(t, x) != printed(t, y) {
					t.Error(i, x, y)
				}
			} else if isZero(one[i][k]) != isZero(two[i][k]) || !isZero(one[i][k]) && !reflect.DeepEqual(one[i][k], two[i][k]) {
				t.Error(i, k, one[i], two[i])
			}
		}
	}
	b.Girths, e.Girths = nil, []api.Span{}
	if s, l := strake.CheckBook(b), strake.CheckBook(e); s != api.Many || l != api.Many {
		t.Error(s, l)
	}
	if is, s := strake.IsPlan(parse(t, textO), []int{4, 4}, [][]int{nil, {}}); is || s != api.Many {
		t.Error(is, s)
	}
}

// fill changes all memory of a list, also what is behind its end.
func fill[T any](list []T, x T) {
	list = list[:cap(list)]
	for i := range list {
		list[i] = x
	}
}

func roomy[T any](list []T) []T { return append(make([]T, 0, 9), list...) }

// No argument is changed, and no result shares memory with one (R4).
func TestMemory(t *testing.T) {
	for i, change := range []func(b api.StrakeBook) (api.StrakeBook, api.Snag){
		func(b api.StrakeBook) (api.StrakeBook, api.Snag) { return strake.Measure(b, 0, one(6)) },
		func(b api.StrakeBook) (api.StrakeBook, api.Snag) { return strake.Measure(b, 0, to(0, 99)) },
		func(b api.StrakeBook) (api.StrakeBook, api.Snag) { return strake.Mark(b, mark(1, 0, one(4))) },
	} {
		b := parse(t, textS)
		b.Girths, b.Marks = roomy(b.Girths), roomy(b.Marks)
		now, s := change(b)
		if s != api.Clear || printed(t, b) != textS {
			t.Fatal(i, s, b)
		}
		after := printed(t, now)
		fill(now.Girths, one(-7))
		fill(now.Marks, mark(-7, -7, one(-7)))
		if printed(t, b) != textS {
			t.Error(i, b)
		}
		now, _ = change(b)
		fill(b.Girths, one(-7))
		fill(b.Marks, mark(-7, -7, one(-7)))
		if printed(t, now) != after {
			t.Error(i, now)
		}
	}
}

// The lists that are returned share no memory with a book, with what is handed in, or with each other.
func TestMemoryOfLists(t *testing.T) {
	b, g := parse(t, textS), []int{6, 7, 7}
	b.Girths, b.Marks = roomy(b.Girths), roomy(b.Marks)
	for _, find := range []func() [][]int{
		func() [][]int { p, _, _ := strake.Plan(b, g); return p },
		func() [][]int { p, _, _, _ := strake.Straightest(b, g); return p },
		func() [][]int { l, m, _ := strake.Numbers(b); return [][]int{l, m} },
		func() [][]int { l, _ := strake.Girths(b, 0); return [][]int{l} },
		func() [][]int { l, _ := strake.Clash(parse(t, textC)); return [][]int{l} },
		func() [][]int { l, _ := strake.Equal(7, 2); return [][]int{l} },
	} {
		want := find()
		for i := range want {
			got := find()
			fill(got[i], -7)
			for k := range got {
				if k != i && !slices.Equal(got[k], want[k]) {
					t.Error(got, want)
				}
			}
			if !reflect.DeepEqual(find(), want) {
				t.Error(want)
			}
		}
	}
	if printed(t, b) != textS || !slices.Equal(g, []int{6, 7, 7}) {
		t.Error(b, g)
	}
}

// What is printed is parsed as an equal book, with or without its last line feed.
func TestP0_3Texts(t *testing.T) {
	eachBook(t, 300, func(t *testing.T, b api.StrakeBook, o *oracle, r *rand.Rand) {
		text := printed(t, b)
		for _, s := range []string{text, strings.TrimSuffix(text, "\n")} {
			if now := parse(t, s); !reflect.DeepEqual(now, b) {
				t.Error(now)
			}
		}
	})
}

// Girths and widths that are really there are a boat of each book that is right about them, and all that books tell of them is so.
func TestP0_4WhateverTheyAre(t *testing.T) {
	eachBook(t, 80, func(t *testing.T, b api.StrakeBook, o *oracle, r *rand.Rand) {
		for i, g := range o.boats[:min(len(o.boats), 6)] {
			p := o.plans[i][r.Intn(len(o.plans[i]))]
			books := []api.StrakeBook{b}
			learn := func(what string, now api.StrakeBook, s api.Snag) {
				if s != api.Clear {
					t.Fatal(what, books[len(books)-1], g, p, s)
				}
				books = append(books, now)
			}
			for frame, girth := range g {
				now, s := strake.Measure(books[len(books)-1], frame, to(max(girth-r.Intn(3), 0), min(girth+r.Intn(3), api.MaxStrakeGirth)))
				learn("Measure", now, s)
			}
			for range api.MaxStrakeMarks - len(b.Marks) {
				now, s := strake.Mark(books[len(books)-1], markAbout(r, p))
				learn("Mark", now, s)
			}
			for _, x := range books {
				tellsRight(t, x, g, p)
			}
		}
	})
}

// What becomes known makes nothing possible that was not, and takes back nothing that was sure.
func TestP0_6KnowingMore(t *testing.T) {
	tried := 0
	eachBook(t, 200, func(t *testing.T, b api.StrakeBook, o *oracle, r *rand.Rand) {
		for _, now := range knowingMore(r, b) {
			knowsMore(t, b, now)
			tried++
		}
	})
	if tried < 300 {
		t.Error("too few books", tried)
	}
}

// knowingMore returns books of which something more is known.
func knowingMore(r *rand.Rand, b api.StrakeBook) (books []api.StrakeBook) {
	for range 4 {
		frame := r.Intn(len(b.Girths))
		low := some(r, b.Girths[frame])
		if now, s := strake.Measure(b, frame, to(low, min(low+r.Intn(2), api.MaxStrakeGirth))); s == api.Clear {
			books = append(books, now)
		}
		if now, s := strake.Mark(b, markAbout(r, randomPlan(r, b, len(b.Girths)))); s == api.Clear {
			books = append(books, now)
		}
	}
	return books
}

func knowsMore(t *testing.T, b, now api.StrakeBook) {
	t.Helper()
	many, _ := strake.Boats(b)
	if n, _ := strake.Boats(now); n > many || n == 0 {
		t.Error("Boats", b, now, many, n)
	}
	for frame := range b.Girths {
		before, _ := strake.Girths(b, frame)
		after, _ := strake.Girths(now, frame)
		for _, n := range after {
			if !slices.Contains(before, n) {
				t.Error("Girths", b, now, frame, n)
			}
		}
		for n := range b.Strakes {
			x, _ := strake.Widths(b, frame, n)
			if y, _ := strake.Widths(now, frame, n); !isIn(x, y.Low) || !isIn(x, y.High) {
				t.Error("Widths", b, now, frame, n, x, y)
			}
		}
	}
	surely, perhaps, _ := strake.Numbers(b)
	after, left, _ := strake.Numbers(now)
	for _, n := range left {
		if !slices.Contains(perhaps, n) {
			t.Error("Numbers", b, now, perhaps, left)
		}
	}
	// Fair girths stay what they are if a width is marked: only what is measured leaves fewer of them.
	if len(now.Marks) > len(b.Marks) {
		return
	}
	for _, n := range surely {
		if !slices.Contains(after, n) {
			t.Error("Numbers", b, now, surely, after)
		}
	}
	before, _ := strake.Sound(b)
	if sure, _ := strake.Sound(now); before != api.Open && sure != before {
		t.Error("Sound", b, now, before, sure)
	}
}
