package batten_test

import (
	"math/rand"
	"reflect"
	"slices"
	"strings"
	"sync"
	"testing"

	"ribband/api"
	"ribband/batten"
)

func row(results ...any) []any { return results }

// lineCalls calls each function that has a line among its arguments; the results come with the snag last.
func lineCalls(b api.BattenBook, l []int) [][]any {
	return [][]any{
		row(batten.Bends(b, l)),
		row(batten.Twists(b, l)),
		row(batten.Turns(b, l)),
		row(batten.Fair(b, l)),
		row(batten.IsBoat(b, l)),
		row(batten.Nearest(b, l)),
		row(batten.Pulled(b, l)),
		row(batten.Must(b, l)),
	}
}

// otherCalls calls each other function that has a book among its arguments.
func otherCalls(b api.BattenBook, station int, x api.Span, r api.BattenRule, next api.BattenBook, over int) [][]any {
	return [][]any{
		row(batten.CheckBook(b)),
		row(batten.Boats(b)),
		row(batten.Heights(b, station)),
		row(batten.Hollow(b, station)),
		row(batten.Straightest(b)),
		row(batten.Clash(b)),
		row(batten.Ask(b)),
		row(batten.Measure(b, station, x)),
		row(batten.Note(b, r)),
		row(batten.Splice(b, next, over)),
		row(batten.Print(b)),
	}
}

func isZero(v any) bool {
	r := reflect.ValueOf(v)
	return r.IsZero() || r.Kind() == reflect.Slice && r.Len() == 0
}

func snagOf(t *testing.T, results []any) api.Snag {
	t.Helper()
	s := results[len(results)-1].(api.Snag)
	if s != api.Clear && slices.ContainsFunc(results[:len(results)-1], func(v any) bool { return !isZero(v) }) {
		t.Error("with a snag there is a result", results)
	}
	return s
}

var strange = []int{least, -1000, -1, 0, 1, 2, 3, 5, 7, 99, 100, 959, 960, 1 << 40, most}

func strangeBook(r *rand.Rand) api.BattenBook {
	pick := func() int { return strange[r.Intn(len(strange))] }
	b := randomBook(r)
	switch r.Intn(7) {
	case 0:
		b.Bend = pick()
	case 1:
		b.Twist = pick()
	case 2:
		b.Turns = pick()
	case 3:
		b.Marks[r.Intn(len(b.Marks))] = to(pick(), pick())
	case 4:
		b.Rules = append(b.Rules, api.BattenRule{A: pick(), B: pick(), Rise: to(pick(), pick())})
	case 5:
		b.Rules = append(b.Rules, api.BattenRule{A: r.Intn(3), B: r.Intn(3), Rise: to(r.Intn(3)-1, r.Intn(3)-1)})
	case 6:
		b.Marks = append(b.Marks, make([]api.Span, r.Intn(4))...)
	}
	return b
}

func TestP0_1Always(t *testing.T) {
	r := rand.New(rand.NewSource(1))
	pick := func() int { return strange[r.Intn(len(strange))] }
	for range 1500 {
		b, next := strangeBook(r), strangeBook(r)
		if r.Intn(3) == 0 {
			b, next = randomBook(r), randomBook(r)
		}
		l := randomLine(r, b)
		if r.Intn(2) == 0 {
			l = append(l[:r.Intn(len(l))], pick())
		}
		station, x, over := pick(), to(pick(), pick()), pick()
		rule := api.BattenRule{A: pick(), B: pick(), Rise: to(pick(), pick())}
		was := clone(b)
		one := append(lineCalls(b, l), otherCalls(b, station, x, rule, next, over)...)
		two := append(lineCalls(b, l), otherCalls(b, station, x, rule, next, over)...)
		if !reflect.DeepEqual(one, two) || !reflect.DeepEqual(b, was) {
			t.Fatal(b, l, station, x, rule, next, over)
		}
	}
	long := api.BattenBook{Marks: make([]api.Span, 1<<20), Rules: make([]api.BattenRule, 1<<20)}
	if s := batten.CheckBook(long); s != api.Many {
		t.Error(s)
	}
	long.Marks = long.Marks[:3]
	if s := batten.CheckBook(long); s != api.Many {
		t.Error(s)
	}
}

func TestP0_1Together(t *testing.T) {
	b := parse(t, textB+"rule 1 3 0\nrule 0 1 2\nrule 0 3 3..4\n")
	c := parse(t, textC)
	all := func() [][]any {
		return append(lineCalls(b, []int{10, 13, 13, 14}), otherCalls(b, 1, to(13, 20), api.BattenRule{A: 1, B: 3}, c, 2)...)
	}
	want := all()
	var group sync.WaitGroup
	for range 16 {
		group.Add(1)
		go func() {
			defer group.Done()
			for range 50 {
				if got := all(); !reflect.DeepEqual(got, want) {
					t.Error(got)
				}
			}
		}()
	}
	group.Wait()
}

// The book's snag comes first, and with a snag all other results are zero.
func TestP0_2Snags(t *testing.T) {
	r := rand.New(rand.NewSource(3))
	seen := map[api.Snag]int{}
	for range 1500 {
		b := strangeBook(r)
		want := batten.CheckBook(b)
		seen[want]++
		l := randomLine(r, b)
		if r.Intn(2) == 0 {
			l[0] = -1
		}
		all := append(lineCalls(b, l), otherCalls(b, r.Intn(8), to(r.Intn(5), r.Intn(999)), api.BattenRule{B: r.Intn(8)}, b, r.Intn(5))...)
		for i, results := range all {
			if s := snagOf(t, results); want != api.Clear && s != want {
				t.Fatal(i, b, s)
			}
		}
	}
	for _, s := range []api.Snag{api.Clear, api.Range, api.Many, api.Absent, api.Turned} {
		if seen[s] < 20 {
			t.Error("the books are too much alike", seen)
		}
	}
}

// A station that is not there comes before what is said of a function, and that comes before Foul.
func TestP0_2Order(t *testing.T) {
	none, good := parse(t, textNone), parse(t, textB)
	bad := clone(none)
	bad.Rules = rules(api.BattenRule{A: 1, B: 1})
	for i, x := range []struct {
		results []any
		want    api.Snag
	}{
		{row(batten.Heights(none, -1)), api.Absent},
		{row(batten.Heights(none, 3)), api.Absent},
		{row(batten.Heights(none, 2)), api.Foul},
		{row(batten.Heights(none, most)), api.Absent},
		{row(batten.Hollow(none, least)), api.Absent},
		{row(batten.Hollow(none, 0)), api.Absent},
		{row(batten.Hollow(none, 2)), api.Absent},
		{row(batten.Hollow(none, 3)), api.Absent},
		{row(batten.Hollow(none, 1)), api.Foul},
		{row(batten.Straightest(none)), api.Foul},
		{row(batten.Nearest(none, []int{0, 5})), api.Many},
		{row(batten.Nearest(none, []int{0, 5, 960})), api.Range},
		{row(batten.Nearest(none, []int{0, 5, 0})), api.Foul},
		{row(batten.Pulled(none, []int{0, 5})), api.Many},
		{row(batten.Pulled(none, []int{0, 5, -1})), api.Range},
		{row(batten.Pulled(none, []int{0, 5, 0})), api.Foul},
		{row(batten.Must(none, nil)), api.Many},
		{row(batten.Must(none, []int{0, 5, most})), api.Range},
		{row(batten.Must(none, []int{0, 5, 0})), api.Foul},
		{row(batten.Bends(none, []int{0, 5, 0})), api.Clear},
		{row(batten.Twists(none, []int{0, 5, 0})), api.Clear},
		{row(batten.Turns(none, []int{0, 5, 0})), api.Clear},
		{row(batten.Fair(none, []int{0, 5, 0})), api.Clear},
		{row(batten.IsBoat(none, []int{0, 5, 0})), api.Clear},
		{row(batten.Boats(none)), api.Clear},
		{row(batten.Clash(none)), api.Scant},
		{row(batten.Ask(none)), api.Foul},
		{row(batten.Measure(none, 3, to(1, 0))), api.Absent},
		{row(batten.Measure(none, -1, to(0, 960))), api.Absent},
		{row(batten.Measure(none, 0, to(0, 960))), api.Range},
		{row(batten.Measure(none, 0, to(-1, 9))), api.Range},
		{row(batten.Measure(none, 0, to(1, 0))), api.Range},
		{row(batten.Measure(none, 0, to(0, 0))), api.Foul},
		{row(batten.Note(none, api.BattenRule{A: 3, B: 3, Rise: to(1, 0)})), api.Absent},
		{row(batten.Note(none, api.BattenRule{A: 2, B: 2, Rise: to(1, 0)})), api.Turned},
		{row(batten.Note(none, api.BattenRule{A: 1, B: 2, Rise: to(1, 0)})), api.Range},
		{row(batten.Note(none, api.BattenRule{A: 1, B: 2, Rise: to(-5, -5)})), api.Foul},
		{row(batten.Splice(bad, api.BattenBook{Bend: -1}, 1)), api.Turned},
		{row(batten.Splice(good, bad, 1)), api.Turned},
		{row(batten.Splice(good, api.BattenBook{}, 1)), api.Many},
		{row(batten.Splice(none, good, 1)), api.Range},
		{row(batten.Splice(none, good, 4)), api.Range},
		{row(batten.Splice(good, none, 4)), api.Range},
		{row(batten.Splice(good, none, 0)), api.Range},
		{row(batten.Splice(good, none, least)), api.Range},
		{row(batten.Splice(good, none, most)), api.Range},
		{row(batten.Splice(none, none, 2)), api.Foul},
		{row(batten.Splice(none, none, 3)), api.Foul},
		{row(batten.Print(none)), api.Clear},
		{row(batten.Print(bad)), api.Turned},
	} {
		if s := snagOf(t, x.results); s != x.want {
			t.Error(i, s)
		}
	}
}

// It makes no difference whether a slice is nil or empty (R3).
func TestEmpty(t *testing.T) {
	b := parse(t, textB)
	e := clone(b)
	b.Rules, e.Rules = nil, []api.BattenRule{}
	one := append(lineCalls(b, nil), otherCalls(b, 1, to(13, 13), api.BattenRule{A: 1, B: 3}, b, 2)...)
	two := append(lineCalls(e, []int{}), otherCalls(e, 1, to(13, 13), api.BattenRule{A: 1, B: 3}, e, 2)...)
	for i := range one {
		for k := range one[i] {
			if x, ok := one[i][k].(api.BattenBook); ok {
				if y := two[i][k].(api.BattenBook); !slices.Equal(x.Marks, y.Marks) || !slices.Equal(x.Rules, y.Rules) {
					t.Error(i, x, y)
				}
			} else if !isZero(one[i][k]) && !reflect.DeepEqual(one[i][k], two[i][k]) || isZero(one[i][k]) != isZero(two[i][k]) {
				t.Error(i, k, one[i], two[i])
			}
		}
	}
	if s := batten.CheckBook(api.BattenBook{Marks: []api.Span{}}); s != api.Many {
		t.Error(s)
	}
}

func spoil(b api.BattenBook) {
	for i := range b.Marks[:cap(b.Marks)] {
		b.Marks[:cap(b.Marks)][i] = to(-7, -7)
	}
	for i := range b.Rules[:cap(b.Rules)] {
		b.Rules[:cap(b.Rules)][i] = api.BattenRule{A: -7}
	}
}

// No argument is changed, and no result shares memory with one (R4).
func TestMemory(t *testing.T) {
	text := textB + "rule 0 3 3..4\n"
	c := parse(t, textC+"rule 0 2 -3..-2\n")
	for i, change := range []func(b api.BattenBook) (api.BattenBook, api.Snag){
		func(b api.BattenBook) (api.BattenBook, api.Snag) { return batten.Measure(b, 1, to(13, 13)) },
		func(b api.BattenBook) (api.BattenBook, api.Snag) { return batten.Measure(b, 1, to(0, 959)) },
		func(b api.BattenBook) (api.BattenBook, api.Snag) {
			return batten.Note(b, api.BattenRule{A: 1, B: 2, Rise: to(0, 2)})
		},
		func(b api.BattenBook) (api.BattenBook, api.Snag) { return batten.Splice(b, c, 2) },
	} {
		b := parse(t, text)
		b.Marks = append(make([]api.Span, 0, 9), b.Marks...)
		b.Rules = append(make([]api.BattenRule, 0, 9), b.Rules...)
		now, s := change(b)
		if s != api.Clear || printed(t, b) != text || printed(t, c) != textC+"rule 0 2 -3..-2\n" {
			t.Fatal(i, s, b, c)
		}
		after := printed(t, now)
		spoil(now)
		if printed(t, b) != text || printed(t, c) != textC+"rule 0 2 -3..-2\n" {
			t.Error(i, b, c)
		}
		now, _ = change(b)
		spoil(b)
		if printed(t, now) != after {
			t.Error(i, now)
		}
	}
	b := parse(t, textB)
	l := []int{10, 13, 13, 14}
	all := lineCalls(b, l)
	otherCalls(b, 1, to(13, 13), api.BattenRule{A: 1, B: 3}, c, 2)
	if printed(t, b) != textB || !slices.Equal(l, []int{10, 13, 13, 14}) {
		t.Error(b, l)
	}
	for _, results := range all {
		if list, ok := results[0].([]int); ok {
			for i := range list {
				list[i] = -7
			}
		}
	}
	if !slices.Equal(l, []int{10, 13, 13, 14}) {
		t.Error(l)
	}
}

// What is printed is parsed as an equal book, with or without its last line feed.
func TestP0_3Texts(t *testing.T) {
	eachBook(t, 300, func(t *testing.T, b api.BattenBook, o *oracle, r *rand.Rand) {
		text := printed(t, b)
		for _, s := range []string{text, strings.TrimSuffix(text, "\n")} {
			if now := parse(t, s); !reflect.DeepEqual(now, b) {
				t.Error(now)
			}
		}
	})
}

// A line that is really there is a boat of each book that is right about it, and all that books tell of it is so.
func TestP0_4WhateverSheIs(t *testing.T) {
	eachBook(t, 80, func(t *testing.T, b api.BattenBook, o *oracle, r *rand.Rand) {
		for _, l := range o.boats[:min(len(o.boats), 20)] {
			books := []api.BattenBook{b}
			now := b
			for station, h := range l {
				low := max(h-r.Intn(3), 0)
				next, s := batten.Measure(now, station, to(low, min(h+r.Intn(3), api.MaxBattenHeight)))
				if s != api.Clear {
					t.Fatal("Measure", now, station, h, s)
				}
				now = next
				books = append(books, now)
			}
			if len(now.Rules) < api.MaxBattenRules {
				next, s := batten.Note(now, api.BattenRule{A: 0, B: 2, Rise: to(l[2]-l[0]-r.Intn(2), l[2]-l[0]+r.Intn(2))})
				if s != api.Clear {
					t.Fatal("Note", now, l, s)
				}
				books = append(books, next)
			}
			for _, x := range books {
				tellsRight(t, x, l)
			}
		}
	})
}

// tellsRight tests that all that a book tells is so of a line that is one of its boats.
func tellsRight(t *testing.T, b api.BattenBook, l []int) {
	t.Helper()
	if is, s := batten.IsBoat(b, l); !is || s != api.Clear {
		t.Error("IsBoat", b, l, is, s)
	}
	for station, h := range l {
		if list, _ := batten.Heights(b, station); !slices.Contains(list, h) {
			t.Error("Heights", b, l, station, list)
		}
		if station > 0 && station < len(l)-1 {
			hollow := bends(l)[station-1] > 0
			if sure, _ := batten.Hollow(b, station); sure == api.Yes && !hollow || sure == api.No && hollow {
				t.Error("Hollow", b, l, station, sure)
			}
		}
	}
	if _, n, _ := batten.Straightest(b); n > strain(l) {
		t.Error("Straightest", b, l, n)
	}
	if near, moved, _ := batten.Nearest(b, l); !slices.Equal(near, l) || moved != 0 {
		t.Error("Nearest", b, l, near, moved)
	}
	if list, s := batten.Pulled(b, l); len(list) > 0 || s != api.Clear {
		t.Error("Pulled", b, l, list, s)
	}
	if list, s := batten.Must(b, l); len(list) > 0 || s != api.Clear {
		t.Error("Must", b, l, list, s)
	}
	if list, s := batten.Clash(b); len(list) > 0 || s != api.Clear {
		t.Error("Clash", b, l, list, s)
	}
}

// What becomes known makes nothing possible that was not, and takes back nothing that was sure.
func TestP0_6KnowingMore(t *testing.T) {
	eachBook(t, 150, func(t *testing.T, b api.BattenBook, o *oracle, r *rand.Rand) {
		for _, now := range knowingMore(r, b) {
			knowsMore(t, b, now, randomLine(r, b))
		}
	})
}

// knowingMore returns books of which something more is known.
func knowingMore(r *rand.Rand, b api.BattenBook) (books []api.BattenBook) {
	for range 6 {
		station := r.Intn(len(b.Marks))
		low := b.Marks[station].Low + r.Intn(2)
		if now, s := batten.Measure(b, station, to(low, min(low+r.Intn(2), api.MaxBattenHeight))); s == api.Clear {
			books = append(books, now)
		}
		rise := b.Marks[2].Low - b.Marks[0].Low
		if now, s := batten.Note(b, api.BattenRule{A: 0, B: 2, Rise: to(rise-r.Intn(3), rise+r.Intn(2))}); s == api.Clear {
			books = append(books, now)
		}
	}
	return books
}

func knowsMore(t *testing.T, b, now api.BattenBook, l []int) {
	t.Helper()
	many, _ := batten.Boats(b)
	if n, _ := batten.Boats(now); n > many || n == 0 {
		t.Error("Boats", b, now, many, n)
	}
	for _, boat := range newOracle(now).boats {
		if is, _ := batten.IsBoat(b, boat); !is {
			t.Error("IsBoat", b, now, boat)
		}
	}
	for station := range b.Marks {
		more, _ := batten.Heights(b, station)
		less, _ := batten.Heights(now, station)
		for _, h := range less {
			if !slices.Contains(more, h) {
				t.Error("Heights", b, now, station, h)
			}
		}
		before, s := batten.Hollow(b, station)
		if after, _ := batten.Hollow(now, station); s == api.Clear && before != api.Open && after != before {
			t.Error("Hollow", b, now, station, before, after)
		}
	}
	_, before, _ := batten.Straightest(b)
	if _, after, _ := batten.Straightest(now); after < before {
		t.Error("Straightest", b, now, before, after)
	}
	_, before, _ = batten.Nearest(b, l)
	if _, after, _ := batten.Nearest(now, l); after < before {
		t.Error("Nearest", b, now, l, before, after)
	}
	fewer, _ := batten.Pulled(b, l)
	if list, _ := batten.Pulled(now, l); len(list) < len(fewer) {
		t.Error("Pulled", b, now, l, fewer, list)
	}
	must, _ := batten.Must(b, l)
	after, _ := batten.Must(now, l)
	for _, station := range must {
		if !slices.Contains(after, station) {
			t.Error("Must", b, now, l, must, after)
		}
	}
}
