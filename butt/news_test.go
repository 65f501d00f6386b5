package butt_test

import (
	"math/rand"
	"reflect"
	"slices"
	"strings"
	"testing"

	"ribband/api"
	"ribband/butt"
)

func TestP6_4Examples(t *testing.T) {
	b := parse(t, textP)
	now, s := butt.Rotten(b, 1)
	if s != api.Clear || now.Kinds[1].Many != one(2) {
		t.Error(now, s)
	}
	if l, n, found, s := butt.Fewest(now); !same(l, lay(on(2), on(4))) || n != 4 || !found || s != api.Clear {
		t.Error(l, n, found, s)
	}
	if kind, left, s := butt.Ask(b); kind != 0 || left != 1 || s != api.Clear {
		t.Error(kind, left, s)
	}
	now, s = butt.Count(b, 0, one(3))
	if n, _ := butt.Boats(now); n != 1 || s != api.Clear {
		t.Error(now, n, s)
	}
	now, s = butt.Note(b, note(one(5), 0, 1))
	if n, _ := butt.Boats(now); n != 1 || s != api.Clear {
		t.Error(now, n, s)
	}
	if l, s := butt.Clash(parse(t, textC)); !slices.Equal(l, on(0, 1)) || s != api.Clear {
		t.Error(l, s)
	}
}

func TestP6_4Clash(t *testing.T) {
	const three = headP + "kind 2 1 0..2\nkind 3 1 0..2\nkind 4 1 0..2\n"
	for i, x := range []struct {
		text string
		want []int
	}{
		{textP, nil},
		{textN, nil}, // whether there are layouts makes no difference
		{textP + "note 0+1 5\n", nil},
		{textC, on(0, 1)},
		{textC + "note 1 4\n", on(2)}, // one is fewer than two
		{textP + "note 1 4\nnote 1 2\n", on(0)},
		{textP + "note 0 2\nnote 0 3\nnote 0 2\n", on(0, 1)}, // of several lists the least one
		{textP + "note 0+1 0..36\nnote 0 2\nnote 0+1 6\n", on(1, 2)},
		{textP + "note 0 2\nnote 1 3\nnote 0+1 6\n", on(0, 2)},
		{three + "note 0+1 1\nnote 1+2 1\nnote 0+2 1\n", on(0, 1, 2)}, // only all together
		{three + "note 0+1 1\nnote 1+2 1\nnote 0+2 2\n", nil},
		{three + "note 0+1 4\nnote 1+2 0\nnote 0+2 1\n", on(0, 1)},
		{three + "note 0+1+2 7..36\nnote 0 3\nnote 1 0\n", on(0)},
	} {
		if l, s := butt.Clash(parse(t, x.text)); !slices.Equal(l, x.want) || s != api.Clear {
			t.Error(i, l, s)
		}
	}
}

func TestP6_4Ask(t *testing.T) {
	for i, x := range []struct {
		text       string
		kind, left int
		s          api.Snag
	}{
		{textP, 0, 1, api.Clear},
		{textO, 0, 2, api.Clear}, // the other kind would do as well
		{textO + "note 0+1 4\n", 0, 1, api.Clear},
		{textO + "note 0 1\n", 1, 1, api.Clear},
		{textP + "note 0 2\n", -1, 1, api.Clear},
		{headP + "kind 2 1 0..1\nkind 4 1 0..2\n", 1, 2, api.Clear},
		{headP + "kind 2 1 0..1\nkind 4 1 0..2\nkind 5 1 0..2\n", 1, 6, api.Clear},
		{headP + "kind 2 1 0..1\nkind 4 1 0..2\nkind 5 1 0..2\nnote 0+2 1..2\n", 1, 4, api.Clear},
		{headP + "kind 2 1 0..1\nkind 4 1 0..2\nkind 5 1 0..2\nnote 1+2 2\n", 1, 2, api.Clear},
		{textC, 0, 0, api.Foul},
	} {
		if kind, left, s := butt.Ask(parse(t, x.text)); kind != x.kind || left != x.left || s != x.s {
			t.Error(i, kind, left, s)
		}
	}
}

func TestP6_4Rotten(t *testing.T) {
	few := strings.Replace(textP, "2..3", "0..1", 1)
	empty := strings.Replace(textP, "2..3", "0", 1)
	for i, x := range []struct {
		text string
		kind int
		want string
		s    api.Snag
	}{
		{textP, 0, strings.Replace(textP, "2..3", "1..2", 1), api.Clear},
		{textP, 1, strings.Replace(textP, "3 3", "3 2", 1), api.Clear},
		{few, 0, empty, api.Clear},
		{empty, 0, "", api.Scant},
		{empty + "note 0 9\n", 0, "", api.Scant}, // this comes before Foul
		{strings.Replace(textP, "2..3", "0..2", 1), 0, few, api.Clear},
		{textP, 2, "", api.Absent},
		{textP, -1, "", api.Absent},
		{empty, most, "", api.Absent},
		{textC, least, "", api.Absent},
		// notes with this kind, and no others
		{textP + "note 0+1 5..6\nnote 1 3\nnote 0 0..3\n", 0, strings.Replace(textP, "2..3", "1..2", 1) + "note 0+1 4..5\nnote 1 3\nnote 0 0..2\n", api.Clear},
		{textP + "note 0+1 5..6\nnote 1 3\nnote 0 0..3\n", 1, strings.Replace(textP, "3 3", "3 2", 1) + "note 0+1 4..5\nnote 1 2\nnote 0 0..3\n", api.Clear},
		{few + "note 0 0..1\n", 0, empty + "note 0 0\n", api.Clear},
		{few + "note 0 0\n", 0, "", api.Foul}, // a note says that there was none
		{few + "note 0 0\n", 1, strings.Replace(few, "3 3", "3 2", 1) + "note 0 0\n", api.Clear},
		{few + "note 0+1 3\n", 0, "", api.Foul}, // the other kind takes all
		{few + "note 0+1 3..4\n", 0, empty + "note 0+1 2..3\n", api.Clear},
		{textC, 0, "", api.Foul},
		{textC, 1, "", api.Foul},
		{textP + "note 0+1 0\n", 0, "", api.Foul},
		{textP + "note 0 0..36\n", 0, strings.Replace(textP, "2..3", "1..2", 1) + "note 0 0..35\n", api.Clear},
		{textN, 0, strings.Replace(textN, "12", "11", 1), api.Clear},
	} {
		now, s := butt.Rotten(parse(t, x.text), x.kind)
		if text, _ := butt.Print(now); text != x.want || s != x.s {
			t.Error(i, text, s)
		}
	}
}

func TestP6_4Count(t *testing.T) {
	for i, x := range []struct {
		text string
		kind int
		x    api.Span
		want string
		s    api.Snag
	}{
		{textP, 0, one(3), strings.Replace(textP, "2..3", "3", 1), api.Clear},
		{textP, 0, to(0, 2), strings.Replace(textP, "2..3", "2", 1), api.Clear},
		{textP, 0, to(3, 12), strings.Replace(textP, "2..3", "3", 1), api.Clear},
		{textP, 0, to(2, 3), textP, api.Clear},
		{textP, 0, to(0, 12), textP, api.Clear},
		{textP, 1, one(3), textP, api.Clear},
		{textO, 1, one(2), strings.Replace(textO, "2..3", "2", 1), api.Clear},
		{textP, 0, to(4, 12), "", api.Foul},
		{textP, 0, to(0, 1), "", api.Foul},
		{textP + "note 0+1 5\n", 0, one(3), "", api.Foul}, // in common there is something, but no boat
		{textC, 0, to(0, 12), "", api.Foul},
		{textP, 0, to(0, 13), "", api.Range},
		{textP, 0, to(-1, 3), "", api.Range},
		{textP, 0, to(3, 2), "", api.Range},
		{textC, 0, to(least, most), "", api.Range},
		{textP, 0, to(most, least), "", api.Range},
		{textP, 2, one(3), "", api.Absent},
		{textP, 2, to(3, 2), "", api.Absent},
		{textP, -1, to(0, 13), "", api.Absent},
		{textC, least, one(3), "", api.Absent},
		{textP, most, one(3), "", api.Absent},
	} {
		now, s := butt.Count(parse(t, x.text), x.kind, x.x)
		if text, _ := butt.Print(now); text != x.want || s != x.s {
			t.Error(i, text, s)
		}
	}
}

func TestP6_4Note(t *testing.T) {
	full := textP + strings.Repeat("note 1 3\n", api.MaxButtNotes)
	for i, x := range []struct {
		text string
		n    api.ButtNote
		want string
		s    api.Snag
	}{
		{textP, note(one(5), 0, 1), textP + "note 0+1 5\n", api.Clear},
		{textP, note(to(0, 36), 1), textP + "note 1 0..36\n", api.Clear},
		{textP + "note 0 3\n", note(one(3), 0), textP + "note 0 3\nnote 0 3\n", api.Clear}, // once more
		{textP + strings.Repeat("note 1 3\n", 2), note(one(3), 1), full, api.Clear},
		{textP, note(one(4), 0, 1), "", api.Foul},
		{textP + "note 0 3\n", note(one(5), 0, 1), "", api.Foul},
		{textC, note(one(3), 1), "", api.Foul}, // there was no boat before
		{textP, note(one(3)), "", api.Many},
		{textP, note(to(1, 0)), "", api.Many},
		{textP, note(to(1, 0), 2), "", api.Absent},
		{textP, note(one(3), -1), "", api.Absent},
		{textP, note(one(3), 0, most), "", api.Absent},
		{textP, note(to(1, 0), 1, 1), "", api.Turned},
		{textP, note(one(3), 1, 0), "", api.Turned},
		{textP, note(to(1, 0), 1), "", api.Range},
		{textP, note(to(0, 37), 1), "", api.Range},
		{textP, note(to(-1, 3), 1), "", api.Range},
		{textC, note(to(least, most), 1), "", api.Range},
		{full, note(one(3), 1), "", api.Many},
		{full, note(to(1, 0), 7), "", api.Many}, // how many there are comes before each of them
	} {
		now, s := butt.Note(parse(t, x.text), x.n)
		if text, _ := butt.Print(now); text != x.want || s != x.s {
			t.Error(i, text, s)
		}
	}
}

func TestP6_4Everything(t *testing.T) {
	clashes, asked, snags := map[int]int{}, map[bool]int{}, map[string]map[api.Snag]int{"Rotten": {}, "Count": {}, "Note": {}}
	eachBook(t, 1200, func(t *testing.T, b api.ButtBook, o *oracle, r *rand.Rand) {
		list := o.clash()
		clashes[len(list)]++
		if l, s := butt.Clash(b); !slices.Equal(l, list) || s != api.Clear {
			t.Error("Clash", l, s, list)
		}
		kind, left := o.ask()
		if len(o.boats) == 0 {
			kind, left = 0, 0
		}
		asked[left > 0 && kind >= 0]++
		if k, n, s := butt.Ask(b); k != kind || n != left || s != o.snag() {
			t.Error("Ask", k, n, s, kind, left)
		}
		isNews := func(what string, book api.ButtBook, want api.Snag) func(now api.ButtBook, s api.Snag) {
			snags[what][want]++
			return func(now api.ButtBook, s api.Snag) {
				if s != want || want != api.Clear && !reflect.DeepEqual(now, api.ButtBook{}) || want == api.Clear && printed(t, now) != printed(t, book) {
					t.Error(what, now, s, book, want)
				}
			}
		}
		hasBoat := func(book api.ButtBook) api.Snag {
			if len(boatsOf(book)) == 0 {
				return api.Foul
			}
			return api.Clear
		}
		for k := range b.Kinds {
			now, want := rotten(b, k)
			isNews("Rotten", now, want)(butt.Rotten(b, k))
		}
		kind = r.Intn(len(b.Kinds))
		many := b.Kinds[kind].Many
		x := to(max(many.Low+r.Intn(4)-1, 0), min(many.High+r.Intn(2), api.MaxButtMany))
		counted, want := clone(b), api.Range
		counted.Kinds[kind].Many = to(max(x.Low, many.Low), min(x.High, many.High))
		if x.Low <= x.High {
			want = hasBoat(counted)
		}
		isNews("Count", counted, want)(butt.Count(b, kind, x))
		if len(b.Notes) < api.MaxButtNotes {
			noted := clone(b)
			noted.Notes = append(noted.Notes, noteAbout(r, randomNumbers(r, b)))
			isNews("Note", noted, hasBoat(noted))(butt.Note(b, noted.Notes[len(b.Notes)]))
		}
	})
	if clashes[0] < 500 || clashes[1] < 100 || clashes[2] < 40 || asked[true] < 500 || asked[false] < 100 {
		t.Error("the books are too much alike", clashes, asked)
	}
	if snags["Rotten"][api.Scant] < 50 {
		t.Error("the books are too much alike", snags)
	}
	for _, seen := range snags {
		if seen[api.Clear] < 200 || seen[api.Foul] < 100 {
			t.Error("the books are too much alike", snags)
		}
	}
}

// Each note is right about some boat, so that more of them clash only together.
func TestP6_4ClashTogether(t *testing.T) {
	clashes := map[int]int{}
	eachBook(t, 1500, func(t *testing.T, b api.ButtBook, o *oracle, r *rand.Rand) {
		b.Notes = nil
		boats := boatsOf(b)
		for range api.MaxButtNotes {
			x := noteAbout(r, boats[r.Intn(len(boats))])
			x.Sum = one(some(r, x.Sum))
			b.Notes = append(b.Notes, x)
		}
		o.book = b
		list := o.clash()
		clashes[len(list)]++
		if l, s := butt.Clash(b); !slices.Equal(l, list) || s != api.Clear {
			t.Error(b, l, s, list)
		}
	})
	if clashes[0] < 150 || clashes[1] < 100 || clashes[2] < 250 || clashes[3] < 10 {
		t.Error("the books are too much alike", clashes)
	}
}

// What is counted or noted never adds a boat; see also TestP0_6KnowingMore.
func TestP6_10NothingIsAdded(t *testing.T) {
	tried := 0
	eachBook(t, 300, func(t *testing.T, b api.ButtBook, o *oracle, r *rand.Rand) {
		for _, now := range knowingMore(r, b) {
			for _, numbers := range boatsOf(now) {
				tried++
				if is, s := butt.IsBoat(b, numbers); !is || s != api.Clear {
					t.Error(now, numbers, is, s)
				}
			}
			for range 5 {
				numbers := randomNumbers(r, b)
				if is, _ := butt.IsBoat(now, numbers); is && !isBoat(b, numbers) {
					t.Error(now, numbers)
				}
			}
		}
	})
	if tried < 1000 {
		t.Error("too few boats", tried)
	}
}

// Notes that clash do so alone, and no fewer do.
func TestP6_10Clash(t *testing.T) {
	tried := 0
	eachBook(t, 600, func(t *testing.T, b api.ButtBook, o *oracle, r *rand.Rand) {
		list, _ := butt.Clash(b)
		if n, s := butt.Boats(b); (n > 0) != (len(list) == 0) || s != api.Clear {
			t.Error(list, n, s)
		}
		if len(list) == 0 {
			return
		}
		tried++
		set := 0
		for _, i := range list {
			set |= 1 << i
		}
		alone, _ := only(b, set)
		if n, s := butt.Boats(alone); n > 0 || s != api.Clear {
			t.Error("they do not clash", list, n)
		}
		for set := range 1 << len(b.Notes) {
			fewer, some := only(b, set)
			if n, _ := butt.Boats(fewer); n == 0 && isLess(some, list) {
				t.Error("fewer clash", list, some)
			}
		}
	})
	if tried < 100 {
		t.Error("too few clashes", tried)
	}
}

// Once the number that is asked for is known no more boats are left than is said, and no other number leaves fewer.
func TestP6_10Ask(t *testing.T) {
	eachBook(t, 400, func(t *testing.T, b api.ButtBook, o *oracle, r *rand.Rand) {
		kind, left, s := butt.Ask(b)
		if s != api.Clear {
			return
		}
		for i, k := range b.Kinds {
			worst := 0
			for n := k.Many.Low; n <= k.Many.High; n++ {
				if now, s := butt.Count(b, i, one(n)); s == api.Clear {
					many, _ := butt.Boats(now)
					worst = max(worst, many)
				}
			}
			if worst < left || i == kind && worst != left || i < kind && worst == left {
				t.Error(kind, left, i, worst)
			}
		}
	})
}

// A board that is rotten never makes it easier: with it there was a boat that can have been, whatever can be planked without it could be then, and cost no more.
func TestP6_10Rotten(t *testing.T) {
	tried := 0
	eachBook(t, 300, func(t *testing.T, b api.ButtBook, o *oracle, r *rand.Rand) {
		for kind := range b.Kinds {
			now, s := butt.Rotten(b, kind)
			if s != api.Clear {
				continue
			}
			l := o.anyLayout(r)
			was, _ := butt.Can(b, l)
			if sure, _ := butt.Can(now, l); was == api.No && sure != api.No {
				t.Error("Can", now, l, was, sure)
			}
			left := 0
			for _, numbers := range boatsOf(now) {
				tried++
				left++
				before := slices.Clone(numbers)
				before[kind]++
				if is, s := butt.IsBoat(b, before); !is || s != api.Clear {
					t.Error("IsBoat", now, numbers, is, s)
				}
				_, cost, found, _ := butt.Take(now, l, numbers)
				if _, less, too, _ := butt.Take(b, l, before); found && (!too || less > cost) {
					t.Error("Take", now, l, numbers, cost, less, too)
				}
			}
			// each boat that had such a board is one without it
			for _, numbers := range o.boats {
				if numbers[kind] > 0 {
					left--
				}
			}
			if left != 0 {
				t.Error("there are more or fewer boats", now, left)
			}
		}
	})
	if tried < 500 {
		t.Error("too few boats", tried)
	}
}
