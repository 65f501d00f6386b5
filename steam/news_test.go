package steam_test

import (
	"math/rand"
	"reflect"
	"slices"
	"strings"
	"testing"

	"ribband/api"
	"ribband/steam"
)

func TestP9_4Examples(t *testing.T) {
	b := parse(t, textV)
	if plank, left, s := steam.Ask(b); plank != 1 || left != 1 || s != api.Clear {
		t.Error(plank, left, s)
	}
	now, s := steam.Time(b, 1, one(3))
	if n, _ := steam.Boats(now); n != 1 || s != api.Clear {
		t.Error(now, n, s)
	}
	b.Notes = append(b.Notes, note(one(5), 0), note(one(2), 1))
	if l, s := steam.Clash(b); !slices.Equal(l, on(1)) || s != api.Clear {
		t.Error(l, s)
	}
}

func TestP9_4Clash(t *testing.T) {
	const three = "steam 1 1 9\nplank a 1..3 1 1\nplank b 1..3 1 1\nplank c 1..3 1 1\n"
	for i, x := range []struct {
		text string
		want []int
	}{
		{headV, nil},
		{textV, nil},
		{textT, nil}, // whether a plan is good makes no difference
		{textO, nil},
		{textV + "note 0+1 7\n", nil},
		{textC, on(1)},
		{textD, on(0, 1)},
		{textD + "note 2 4\n", on(2)}, // one is fewer than two
		{headV + "note 0 5\nnote 2 4\n", on(0)},
		{headV + "note 1 2\nnote 1 3\nnote 1 2\n", on(0, 1)}, // of several lists the least one
		{headV + "note 0+1 0..80\nnote 1 2\nnote 0+1 7\n", on(1, 2)},
		{headV + "note 1 2\nnote 0 4\nnote 0+1 7\n", on(0, 2)},
		{three + "note 0+1 3\nnote 1+2 3\nnote 0+2 3\n", on(0, 1, 2)}, // only all together
		{three + "note 0+1 3\nnote 1+2 3\nnote 0+2 4\n", nil},
		{three + "note 0+1 2\nnote 1+2 5..6\nnote 0+2 3\n", on(0, 1)},
		{three + "note 0+1+2 9\nnote 0 0..3\nnote 1 1..2\n", on(0, 2)},
		{three + "note 0+1+2 10..80\nnote 0 3\nnote 1 1\n", on(0)},
	} {
		if l, s := steam.Clash(parse(t, x.text)); !slices.Equal(l, x.want) || s != api.Clear {
			t.Error(i, l, s)
		}
	}
}

func TestP9_4Ask(t *testing.T) {
	const two = "steam 1 1 9\nplank a 1..2 1 1\nplank b 1..3 1 1\n"
	for i, x := range []struct {
		text        string
		plank, left int
		s           api.Snag
	}{
		{textV, 1, 1, api.Clear},
		{headV, 1, 1, api.Clear},
		{textV + "note 1 2\n", -1, 1, api.Clear},
		{textO, -1, 1, api.Clear},
		{textW, 0, 6, api.Clear}, // the plank 1 would do as well
		{textW + "note 0+1 6\n", 0, 2, api.Clear},
		{textW + "note 0 4\n", 1, 2, api.Clear},
		{textW + "note 0+1+3 10..11\n", 0, 3, api.Clear},
		{textW + "note 0 5\nnote 1 3\n", 3, 1, api.Clear},
		{two, 1, 2, api.Clear},
		{two + "note 0+1 2..3\n", 0, 2, api.Clear},
		{two + "note 0+1 3\n", 0, 1, api.Clear},
		{two + "plank c 1..3 1 1\n", 1, 6, api.Clear},
		{two + "plank c 1..3 1 1\nnote 1+2 4\n", 1, 2, api.Clear},
		{textC, 0, 0, api.Foul},
		{textD, 0, 0, api.Foul},
	} {
		if plank, left, s := steam.Ask(parse(t, x.text)); plank != x.plank || left != x.left || s != x.s {
			t.Error(i, plank, left, s)
		}
	}
}

func TestP9_4Time(t *testing.T) {
	for i, x := range []struct {
		text  string
		plank int
		x     api.Span
		want  string
		s     api.Snag
	}{
		{textV, 1, one(3), strings.Replace(textV, "2..3", "3", 1), api.Clear},
		{textV, 1, to(1, 2), strings.Replace(textV, "2..3", "2", 1), api.Clear},
		{textV, 1, to(3, 20), strings.Replace(textV, "2..3", "3", 1), api.Clear},
		{textV, 1, to(2, 3), textV, api.Clear},
		{textV, 1, to(1, 20), textV, api.Clear},
		{textV, 0, one(4), textV, api.Clear},
		{textW, 3, to(2, 9), strings.Replace(textW, "1..2", "2", 1), api.Clear},
		{textV, 1, to(4, 20), "", api.Foul},
		{textV, 1, one(1), "", api.Foul},
		{headV + "note 0+1 7\n", 1, one(2), "", api.Foul}, // in common there is something, but no boat
		{textC, 1, to(1, 20), "", api.Foul},
		{textD, 1, one(2), "", api.Foul},
		{textV, 1, to(0, 3), "", api.Range},
		{textV, 1, to(2, 21), "", api.Range},
		{textV, 1, to(3, 2), "", api.Range},
		{textV, 1, one(0), "", api.Range},
		{textC, 1, to(least, most), "", api.Range},
		{textV, 1, to(most, least), "", api.Range},
		{textV, 3, one(3), "", api.Absent},
		{textV, 3, to(3, 2), "", api.Absent},
		{textV, -1, to(0, 13), "", api.Absent},
		{textC, least, one(3), "", api.Absent},
		{textV, most, one(3), "", api.Absent},
	} {
		now, s := steam.Time(parse(t, x.text), x.plank, x.x)
		if text, _ := steam.Print(now); text != x.want || s != x.s {
			t.Error(i, text, s)
		}
	}
}

func TestP9_4Note(t *testing.T) {
	full := headV + strings.Repeat("note 2 3\n", api.MaxSteamNotes)
	for i, x := range []struct {
		text string
		n    api.SteamNote
		want string
		s    api.Snag
	}{
		{textV, note(one(6), 1, 2), textV + "note 1+2 6\n", api.Clear},
		{textV, note(to(0, 80), 1), textV + "note 1 0..80\n", api.Clear},
		{textV, note(one(10), 0, 1, 2), textV + "note 0+1+2 10\n", api.Clear},
		{headV, note(one(2), 1), headV + "note 1 2\n", api.Clear},
		{textV + "note 1 3\n", note(one(3), 1), textV + "note 1 3\nnote 1 3\n", api.Clear}, // once more
		{headV + strings.Repeat("note 2 3\n", 2), note(one(3), 2), full, api.Clear},
		{textV, note(one(5), 0), "", api.Foul},
		{textV + "note 1 3\n", note(one(6), 0, 1), "", api.Foul},
		{headV, note(one(4), 1), "", api.Foul},
		{textD, note(one(3), 2), "", api.Foul}, // there was no boat before
		{textV, note(one(3)), "", api.Many},
		{textV, note(to(1, 0)), "", api.Many},
		{textV, note(to(1, 0), 3), "", api.Absent},
		{textV, note(one(3), -1), "", api.Absent},
		{textV, note(one(3), 0, most), "", api.Absent},
		{textV, note(to(1, 0), 1, 1), "", api.Turned},
		{textV, note(one(3), 1, 0), "", api.Turned},
		{textV, note(to(1, 0), 1), "", api.Range},
		{textV, note(to(0, 81), 1), "", api.Range},
		{textV, note(to(-1, 3), 1), "", api.Range},
		{textD, note(to(least, most), 1), "", api.Range}, // before Foul
		{full, note(one(3), 2), "", api.Many},
		{full, note(to(1, 0), 7), "", api.Many}, // how many there are comes before each of them
	} {
		now, s := steam.Note(parse(t, x.text), x.n)
		if text, _ := steam.Print(now); text != x.want || s != x.s {
			t.Error(i, text, s)
		}
	}
}

func TestP9_4Everything(t *testing.T) {
	clashes, asked, snags := map[int]int{}, map[bool]int{}, map[string]map[api.Snag]int{"Time": {}, "Note": {}}
	eachBook(t, 1000, func(t *testing.T, b api.SteamBook, o *oracle, r *rand.Rand) {
		list, _ := o.clash()
		clashes[len(list)]++
		if l, s := steam.Clash(b); !slices.Equal(l, list) || s != api.Clear {
			t.Error("Clash", l, s, list)
		}
		plank, left := o.ask()
		if len(o.boats) == 0 {
			plank, left = 0, 0
		}
		asked[left > 0 && plank >= 0]++
		if p, n, s := steam.Ask(b); p != plank || n != left || s != o.snag() {
			t.Error("Ask", p, n, s, plank, left)
		}
		isNews := func(what string, book api.SteamBook, want api.Snag) func(now api.SteamBook, s api.Snag) {
			snags[what][want]++
			return func(now api.SteamBook, s api.Snag) {
				if s != want || want != api.Clear && !reflect.DeepEqual(now, api.SteamBook{}) || want == api.Clear && printed(t, now) != printed(t, book) {
					t.Error(what, now, s, book, want)
				}
			}
		}
		plank = r.Intn(len(b.Planks))
		was := b.Planks[plank].Steam
		x := to(max(was.Low+r.Intn(4)-1, 1), min(was.High+r.Intn(2), api.MaxSteamTicks))
		timed, want := clone(b), api.Range
		timed.Planks[plank].Steam = to(max(x.Low, was.Low), min(x.High, was.High))
		if x.Low <= x.High {
			want = newOracle(timed).snag()
		}
		isNews("Time", timed, want)(steam.Time(b, plank, x))
		if len(b.Notes) < api.MaxSteamNotes {
			noted := clone(b)
			noted.Notes = append(noted.Notes, noteAbout(r, randomTimes(r, b)))
			isNews("Note", noted, newOracle(noted).snag())(steam.Note(b, noted.Notes[len(b.Notes)]))
		}
	})
	if clashes[0] < 500 || clashes[1] < 50 || clashes[2] < 20 || asked[true] < 400 || asked[false] < 100 {
		t.Error("the books are too much alike", clashes, asked)
	}
	for _, seen := range snags {
		if seen[api.Clear] < 200 || seen[api.Foul] < 100 {
			t.Error("the books are too much alike", snags)
		}
	}
}

// Each note is right about some boat, so that more of them clash only together.
func TestP9_4ClashTogether(t *testing.T) {
	clashes := map[int]int{}
	eachBook(t, 1500, func(t *testing.T, b api.SteamBook, o *oracle, r *rand.Rand) {
		b.Notes = nil
		for range api.MaxSteamNotes {
			x := noteAbout(r, anyOf(r, o.ways))
			x.Sum = one(some(r, x.Sum))
			b.Notes = append(b.Notes, x)
		}
		o = newOracle(b)
		list, _ := o.clash()
		clashes[len(list)]++
		if l, s := steam.Clash(b); !slices.Equal(l, list) || s != api.Clear {
			t.Error(b, l, s, list)
		}
	})
	if clashes[0] < 150 || clashes[1] < 50 || clashes[2] < 250 || clashes[3] < 10 {
		t.Error("the books are too much alike", clashes)
	}
}

// What is noted or measured never adds a boat; see also TestP0_6KnowingMore.
func TestP9_11NothingIsAdded(t *testing.T) {
	tried := 0
	eachBook(t, 300, func(t *testing.T, b api.SteamBook, o *oracle, r *rand.Rand) {
		for _, now := range knowingMore(r, b) {
			for _, l := range newOracle(now).boats {
				tried++
				if is, s := steam.IsBoat(b, l); !is || s != api.Clear {
					t.Error(now, l, is, s)
				}
			}
			for range 5 {
				l := randomTimes(r, b)
				if is, _ := steam.IsBoat(now, l); is && !o.has(l) {
					t.Error(now, l)
				}
			}
		}
	})
	if tried < 1000 {
		t.Error("too few boats", tried)
	}
}

// Notes that clash do so alone, and no fewer do.
func TestP9_11Clash(t *testing.T) {
	tried := 0
	eachBook(t, 600, func(t *testing.T, b api.SteamBook, o *oracle, r *rand.Rand) {
		list, _ := steam.Clash(b)
		if n, s := steam.Boats(b); (n > 0) != (len(list) == 0) || s != api.Clear {
			t.Error(list, n, s)
		}
		if len(list) == 0 {
			return
		}
		tried++
		set := 0
		for _, i := range list {
			set |= 1 << i
		}
		alone, _ := only(b, set)
		if n, s := steam.Boats(alone); n > 0 || s != api.Clear {
			t.Error("they do not clash", list, n)
		}
		for set := range 1 << len(b.Notes) {
			fewer, some := only(b, set)
			if n, _ := steam.Boats(fewer); n == 0 && isLess(some, list) {
				t.Error("fewer clash", list, some)
			}
		}
	})
	if tried < 100 {
		t.Error("too few clashes", tried)
	}
}

// Once the time that is asked for is known no more boats are left than is said, and no other time leaves fewer.
func TestP9_11Ask(t *testing.T) {
	tried := 0
	eachBook(t, 400, func(t *testing.T, b api.SteamBook, o *oracle, r *rand.Rand) {
		plank, left, s := steam.Ask(b)
		if s != api.Clear {
			return
		}
		tried++
		for i, p := range b.Planks {
			worst := 0
			for n := p.Steam.Low; n <= p.Steam.High; n++ {
				if now, s := steam.Time(b, i, one(n)); s == api.Clear {
					many, _ := steam.Boats(now)
					worst = max(worst, many)
				}
			}
			if worst < left || i == plank && worst != left || i < plank && worst == left {
				t.Error(plank, left, i, worst)
			}
		}
	})
	if tried < 200 {
		t.Error("too few books", tried)
	}
}
