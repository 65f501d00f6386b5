package steam_test

import (
	"math/rand"
	"slices"
	"strings"
	"testing"

	"ribband/api"
	"ribband/steam"
)

func TestP9_3Examples(t *testing.T) {
	b := parse(t, textV)
	if n, s := steam.Plans(b); n != 3 || s != api.Clear {
		t.Error(n, s)
	}
	if plan, ends, found, s := steam.Soonest(b); !slices.Equal(plan, on(0, 1, 2)) || ends != to(7, 8) || !found || s != api.Clear {
		t.Error(plan, ends, found, s)
	}
	if hands, found, s := steam.Fewest(b); hands != 1 || !found || s != api.Clear {
		t.Error(hands, found, s)
	}
}

func TestP9_3Plans(t *testing.T) {
	const (
		two  = " 8\nplank a 2..3 2 4\nplank b 1..2 3 5\n"
		hard = "plank a 3 4 4\nplank b 3 4 4\nplank c 3 4 4\n" // each one wants its own hand
		easy = "plank a 3 4 4\nplank b 3 4 8\nplank c 3 4 12\n"
	)
	for i, x := range []struct {
		text    string
		plans   int
		soonest []int
		ends    api.Span
		hands   int
	}{
		{textV, 3, on(0, 1, 2), to(7, 8), 1},
		{textV + "note 1 2\n", 4, on(0, 1, 2), one(7), 1},
		{textV + "note 1 3\n", 5, on(0, 1, 2), one(8), 1},
		{strings.Replace(textV, "2 1 12", "2 2 12", 1), 6, on(0, 1, 2), to(6, 7), 1},
		{strings.Replace(textV, "2 1 12", "2 1 8", 1), 2, on(0, 1, 2), to(7, 8), 1},
		{textT, 0, nil, to(0, 0), 2}, // with one more hand there is one
		{textO, 0, nil, to(0, 0), 0}, // with no number of hands
		{textW, 12, on(0, 3, 2, 1), to(9, 12), 2},
		{strings.Replace(textW, "2 2 30", "2 1 30", 1), 0, nil, to(0, 0), 2}, // each plan is cold in some boat
		{strings.Replace(textW, "2 2 30", "2 2 12", 1), 4, on(0, 3, 2, 1), to(9, 12), 2},
		{strings.Replace(textW, "2 2 30", "2 3 12", 1), 6, on(0, 1, 2, 3), to(10, 12), 2}, // the latest end counts, and not the soonest one
		{strings.Replace(textW, "2 2 30", "2 3 11", 1), 0, nil, to(0, 0), 0},
		{"steam 1 1" + two, 2, on(1, 0), to(6, 7), 1},
		{"steam 1 2" + two, 2, on(1, 0), to(5, 7), 1},
		{"steam 2 1" + two, 1, on(0, 1), to(6, 7), 1}, // 1, 0 is perhaps cold
		{"steam 2 2" + two, 2, on(0, 1), to(4, 5), 1}, // of several the least list
		{"steam 3 1 200\n" + hard, 0, nil, to(0, 0), 3},
		{"steam 3 2 200\n" + hard, 0, nil, to(0, 0), 3},
		{"steam 3 3 200\n" + hard, 6, on(0, 1, 2), one(7), 3},
		{"steam 3 3 7\n" + hard, 6, on(0, 1, 2), one(7), 3},
		{"steam 3 3 6\n" + hard, 0, nil, to(0, 0), 0},
		{"steam 3 1 200\n" + easy, 1, on(0, 1, 2), one(15), 1},
		{"steam 3 1 14\n" + easy, 0, nil, to(0, 0), 2},
		{"steam 3 1 10\n" + easy, 0, nil, to(0, 0), 3},
		{"steam 3 1 6\n" + easy, 0, nil, to(0, 0), 0},
		{"steam 3 2 200\n" + easy, 4, on(0, 1, 2), one(11), 1},
		{"steam 1 1 4\nplank a 1 3 3\n", 1, on(0), one(4), 1},
		{"steam 1 1 3\nplank a 1 3 3\n", 0, nil, to(0, 0), 0},
		{"steam 1 1 0\nplank a 1 1 1\n", 0, nil, to(0, 0), 0}, // nothing is done by then
		{"steam 2 1 30\nplank a 3 2 9\nplank b 2 3 9\nplank c 4 1 9\nplank d 1 4 9\n", 24, on(0, 3, 1, 2), one(11), 1},
		{"steam 2 3 30\nplank a 3 2 9\nplank b 2 3 9\nplank c 4 1 9\nplank d 1 4 9\n", 24, on(1, 3, 0, 2), one(7), 1},
	} {
		b := parse(t, x.text)
		if n, s := steam.Plans(b); n != x.plans || s != api.Clear {
			t.Error(i, "Plans", n, s)
		}
		if plan, ends, found, s := steam.Soonest(b); !slices.Equal(plan, x.soonest) || ends != x.ends || found != (x.plans > 0) || s != api.Clear {
			t.Error(i, "Soonest", plan, ends, found, s)
		}
		if hands, found, s := steam.Fewest(b); hands != x.hands || found != (x.hands > 0) || s != api.Clear {
			t.Error(i, "Fewest", hands, found, s)
		}
	}
}

func TestP9_3Foul(t *testing.T) {
	for _, text := range []string{textC, textD} {
		b := parse(t, text)
		if n, s := steam.Plans(b); n != 0 || s != api.Foul {
			t.Error(n, s)
		}
		if plan, ends, found, s := steam.Soonest(b); len(plan) > 0 || ends != to(0, 0) || found || s != api.Foul {
			t.Error(plan, ends, found, s)
		}
		if hands, found, s := steam.Fewest(b); hands != 0 || found || s != api.Foul {
			t.Error(hands, found, s)
		}
	}
}

func TestP9_3Everything(t *testing.T) {
	many, hands, later := map[bool]int{}, map[int]int{}, 0
	eachBook(t, 500, func(t *testing.T, b api.SteamBook, o *oracle, r *rand.Rand) {
		want := o.snag()
		sure := len(o.surely(b.Hands))
		if n, s := steam.Plans(b); n != sure || s != want {
			t.Error("Plans", n, s, sure)
		}
		best, found := o.soonest()
		if plan, ends, is, s := steam.Soonest(b); !slices.Equal(plan, best.plan) || ends != best.ends || is != found || s != want {
			t.Error("Soonest", plan, ends, is, s, best)
		}
		few := o.fewest()
		if n, is, s := steam.Fewest(b); n != few || is != (few > 0) || s != want {
			t.Error("Fewest", n, is, s, few)
		}
		if want == api.Clear {
			many[found]++
			hands[few]++
		}
		if found && !slices.IsSorted(best.plan) {
			later++
		}
	})
	if many[true] < 150 || many[false] < 100 || hands[0] < 50 || hands[1] < 100 || hands[2] < 50 || hands[3] < 10 || later < 40 {
		t.Error("the books are too much alike", many, hands, later)
	}
}

// No plan that is good for sure ends sooner than the soonest one; with fewer hands than Fewest says none is good for sure.
func TestP9_10Plans(t *testing.T) {
	tried, fewer := 0, 0
	eachBook(t, 400, func(t *testing.T, b api.SteamBook, o *oracle, r *rand.Rand) {
		best, ends, found, s := steam.Soonest(b)
		if s != api.Clear {
			return
		}
		if x, s := steam.Ends(b, best); found && x != ends || found != (s == api.Clear) {
			t.Error("Ends", best, ends, x, s)
		}
		many := 0
		for _, plan := range o.plans {
			if sure, _ := steam.Good(b, plan); sure != api.Yes {
				if found && slices.Equal(plan, best) {
					t.Error("it is not good", plan, sure)
				}
				continue
			}
			tried++
			many++
			x, _ := steam.Ends(b, plan)
			if !found || x.High < ends.High || x.High == ends.High && slices.Compare(plan, best) < 0 {
				t.Error("there is a better one", plan, x, best, ends, found)
			}
		}
		if n, s := steam.Plans(b); n != many || s != api.Clear {
			t.Error("Plans", n, s, many)
		}
		few, enough, _ := steam.Fewest(b)
		for hands := 1; hands <= api.MaxSteamHands; hands++ {
			x := b
			x.Hands = hands
			n, s := steam.Plans(x)
			if s != api.Clear || enough && hands == few && n == 0 || (!enough || hands < few) && n > 0 {
				t.Error("Fewest", few, enough, hands, n, s)
			}
			if enough && hands < few {
				fewer++
			}
		}
	})
	if tried < 400 || fewer < 50 {
		t.Error("the books are too much alike", tried, fewer)
	}
}

// A later tide, and planks that are soft for longer, make no plan worse.
func TestP9_12Tide(t *testing.T) {
	// No is worse than Open, and that than Yes
	ease := []int{api.No: 0, api.Open: 1, api.Yes: 2}
	tried, better := 0, 0
	eachBook(t, 250, func(t *testing.T, b api.SteamBook, o *oracle, r *rand.Rand) {
		if len(o.boats) == 0 {
			return
		}
		for _, x := range easier(r, b) {
			for range 3 {
				tried++
				plan := anyOf(r, o.plans)
				was, _ := steam.Good(b, plan)
				now, s := steam.Good(x, plan)
				if ease[now] < ease[was] || s != api.Clear {
					t.Error("Good", x, plan, was, now, s)
				}
				if now != was {
					better++
				}
				for plank := range b.Planks {
					was, _ := steam.Hung(b, plan, plank)
					if now, s := steam.Hung(x, plan, plank); ease[now] > ease[was] || s != api.Clear {
						t.Error("Hung", x, plan, plank, was, now, s)
					}
				}
				before, _ := steam.Ends(b, plan)
				if after, s := steam.Ends(x, plan); after != before || s != api.Clear {
					t.Error("Ends", x, plan, before, after, s)
				}
			}
			many, _ := steam.Plans(b)
			if n, _ := steam.Plans(x); n < many {
				t.Error("Plans", x, many, n)
			}
			_, ends, found, _ := steam.Soonest(b)
			if _, y, is, _ := steam.Soonest(x); found && (!is || y.High > ends.High) {
				t.Error("Soonest", x, ends, y, is)
			}
			hands, found, _ := steam.Fewest(b)
			if n, is, _ := steam.Fewest(x); found && (!is || n > hands) {
				t.Error("Fewest", x, hands, n, is)
			}
		}
	})
	if tried < 1500 || better < 100 {
		t.Error("the books are too much alike", tried, better)
	}
}

// easier returns a book with a later tide, and one for each plank that is soft for longer.
func easier(r *rand.Rand, b api.SteamBook) (books []api.SteamBook) {
	if b.Tide < api.MaxSteamTide {
		x := clone(b)
		x.Tide = some(r, to(b.Tide+1, min(b.Tide+5, api.MaxSteamTide)))
		books = append(books, x)
	}
	for plank, p := range b.Planks {
		if p.Soft < api.MaxSteamTicks {
			x := clone(b)
			x.Planks[plank].Soft = some(r, to(p.Soft+1, min(p.Soft+5, api.MaxSteamTicks)))
			books = append(books, x)
		}
	}
	return books
}
