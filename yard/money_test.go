package yard_test

import (
	"math/rand"
	"slices"
	"strings"
	"testing"

	"ribband/api"
	"ribband/offsets"
	"ribband/yard"
)

func TestP10_2Examples(t *testing.T) {
	for i, x := range []struct {
		texts [10]string
		boats []int
		due   []int
	}{
		{textsY(), on(11, 7, 4, 2, 3, 2, 6, 4, 2), on(0, 0)},
		{but(0, papers[0][1]), on(1, 7, 4, 2, 3, 2, 6, 4, 2), on(0, 0)},
		{but(1, papers[1][2]), on(11, 0, 4, 2, 3, 2, 6, 4, 2), on(0, 0)},
		{but(3, papers[3][1]), on(11, 7, 4, 1, 3, 2, 6, 4, 2), on(100, 0)},
		{but(3, papers[3][2]), on(11, 7, 4, 0, 3, 2, 6, 4, 2), on(0, 0)}, // a part without a boat is not settled
		{but(8, papers[8][1]), on(11, 7, 4, 2, 3, 2, 6, 4, 1), on(0, 30)},
		{but(9, ""), on(11, 7, 4, 2, 3, 2, 6, 4, 2), nil},
	} {
		b := bookOf(t, x.texts)
		if l, s := yard.Boats(b); !slices.Equal(l, x.boats) || s != api.Clear {
			t.Error(i, l, s)
		}
		if l, s := yard.Due(b); !slices.Equal(l, x.due) || s != api.Clear {
			t.Error(i, l, s)
		}
	}
}

// dueOf is what is to be paid of each bill.
func dueOf(t *testing.T, b api.YardBook) (list []int) {
	t.Helper()
	boats := boatsOf(t, b)
	for _, x := range b.Bills {
		if boats[x.Part] == 1 {
			list = append(list, x.Price-x.Paid)
		} else {
			list = append(list, 0)
		}
	}
	return list
}

func TestP10_2Everything(t *testing.T) {
	var settled, open [9]int
	due := 0
	eachBook(t, 400, func(t *testing.T, b api.YardBook, r *rand.Rand) {
		boats := boatsOf(t, b)
		if l, s := yard.Boats(b); !slices.Equal(l, boats[:]) || s != api.Clear {
			t.Error(b, l, s)
		}
		want := dueOf(t, b)
		if l, s := yard.Due(b); !slices.Equal(l, want) || s != api.Clear {
			t.Error(b, l, want, s)
		}
		for part, many := range boats {
			if many == 1 {
				settled[part]++
			} else {
				open[part]++
			}
		}
		for _, n := range want {
			if n > 0 {
				due++
			}
		}
	})
	if slices.Min(settled[:]) < 30 || slices.Min(open[:]) < 30 || due < 50 {
		t.Error("books are too much alike", settled, open, due)
	}
}

func TestP10_2Plane(t *testing.T) {
	const foul = textZ + "butt 0-2-0 0-4-0,-,-\n"
	const loose = "offsets 0\nstation a\nstation b\nstation c\nwater 0-8-0 0-1-2,0-2-?,0-1-2\n"
	for i, x := range []struct {
		text        string
		height, gap int
		want        api.Span
		s           api.Snag
	}{
		{textZ, 64, 6, one(200), api.Clear},
		{textZ, 64, 1, one(33), api.Clear}, // rounded down
		{textZ, 64, 2, one(66), api.Clear},
		{textZ, 64, 99, one(3300), api.Clear},
		{textZ, 63, 3, to(0, 100), api.Clear},
		{textZ, 0, 3, to(0, 100), api.Clear},
		{textZ, 65, 1, to(33, 1918), api.Clear},
		{textZ, 959, 3, to(100, 5754), api.Clear},
		{loose, 64, 1, to(28, 37), api.Clear}, // 16 to 23 in the middle
		{loose, 64, 3, to(84, 112), api.Clear},
		{textZ, -1, 6, to(0, 0), api.Range},
		{textZ, 960, 6, to(0, 0), api.Range},
		{textZ, 64, 0, to(0, 0), api.Range},
		{textZ, 64, -1, to(0, 0), api.Range},
		{textZ, 64, 100, to(0, 0), api.Range},
		{textZ, most, most, to(0, 0), api.Range},
		{papers[0][0], 64, 6, to(0, 0), api.Many},
		{papers[0][0], 960, 6, to(0, 0), api.Range},
		{papers[0][2], 64, 6, to(0, 0), api.Many},
		{"offsets 0\nstation a\n", 64, 6, to(0, 0), api.Many},
		{foul, 64, 6, to(0, 0), api.Foul},
		{foul, 64, 100, to(0, 0), api.Range},
	} {
		if y, s := yard.Plane(bookOf(t, but(0, x.text)), x.height, x.gap); y != x.want || s != x.s {
			t.Error(i, y, s)
		}
	}
}

// weighed is what she weighs by Simpson's rule.
func weighed(breadths [3]int, gap int) int {
	return gap * (breadths[0] + 4*breadths[1] + breadths[2]) / 3
}

func TestP10_2PlaneEverything(t *testing.T) {
	many, snags := 0, map[api.Snag]int{}
	eachBook(t, 400, func(t *testing.T, b api.YardBook, r *rand.Rand) {
		if r.Intn(3) > 0 {
			b.Table = parsed(t, offsets.Parse, anyOf(r, []string{textZ, textT}))
		}
		height, gap := r.Intn(200), 1+r.Intn(99)
		var low, high [3]int
		want := api.Clear
		for station := range 3 {
			x, s := offsets.Breadth(b.Table, station, height)
			low[station], high[station] = x.Low, x.High
			if want == api.Clear {
				want = s
			}
		}
		x := to(weighed(low, gap), weighed(high, gap))
		if len(b.Table.Stations) < 3 {
			want, x = api.Many, api.Span{}
		}
		y, s := yard.Plane(b, height, gap)
		if y != x || s != want {
			t.Error(b.Table, height, gap, y, s, x, want)
		}
		snags[s]++
		if y.Low < y.High {
			many++
		}
	})
	if snags[api.Clear] < 100 || snags[api.Many] < 50 || many < 50 {
		t.Error("tables are too much alike", snags, many)
	}
}

// settledParts are the parts that have just one boat, and the last one.
func settledParts(t *testing.T, b api.YardBook) []int {
	t.Helper()
	list := on(8)
	for part, many := range boatsOf(t, b) {
		if many == 1 {
			list = append(list, part)
		}
	}
	return list
}

// What is paid is paid for parts that are settled, and never more than the price (P10.10).
func TestP10_10(t *testing.T) {
	paidFor := 0
	eachBook(t, 200, func(t *testing.T, b api.YardBook, r *rand.Rand) {
		for i := range b.Bills {
			b.Bills[i].Part = anyOf(r, settledParts(t, b))
		}
		for range 12 {
			e := api.YardEntry{Kind: api.YardPay, A: r.Intn(5), B: 1 + r.Intn(60)}
			if r.Intn(4) == 0 {
				e = likelyEntry(r, b, 0)
			}
			boats, due := boatsOf(t, b), dueOf(t, b)
			now, s := yard.Do(b, e)
			if s != api.Clear {
				if x := e.A; e.Kind == api.YardPay && x >= 0 && x < len(b.Bills) && e.B <= due[x] {
					t.Error("what is due can be paid", b.Bills, e, s)
				}
				continue
			}
			if e.Kind == api.YardPay {
				paidFor++
				if boats[b.Bills[e.A].Part] != 1 || now.Bills[e.A].Paid != b.Bills[e.A].Paid+e.B || e.B > due[e.A] {
					t.Error(b.Bills, e, now.Bills)
				}
			}
			after, _ := yard.Due(now)
			for i, x := range now.Bills {
				if x.Paid > x.Price || after[i] != 0 && after[i]+x.Paid != x.Price {
					t.Error(now.Bills, after)
				}
			}
			b = now
		}
	})
	if paidFor < 100 {
		t.Error("too little is paid", paidFor)
	}
}

// A bill is due as soon as its part is settled, and no longer when it is not.
func TestP10_10Journal(t *testing.T) {
	y := bookY(t)
	j := []api.YardEntry{
		{Kind: api.YardLength, M: one(5)},
		{Hand: 1, Kind: api.YardPay, B: 60},
		{Kind: api.YardPay, A: 1, B: 1},
		{Kind: api.YardTime, A: 1, M: one(3)},
		{Kind: api.YardPay, A: 1, B: 30},
	}
	for i, want := range []struct {
		due  []int
		text string
	}{
		{on(0, 0), "bill 3 100 0\nbill 8 50 20\n"},
		{on(100, 0), "bill 3 100 0\nbill 8 50 20\n"},
		{on(40, 0), "bill 3 100 60\nbill 8 50 20\n"},
		{on(40, 0), "bill 3 100 60\nbill 8 50 20\n"},
		{on(40, 30), "bill 3 100 60\nbill 8 50 20\n"},
		{on(40, 0), "bill 3 100 60\nbill 8 50 50\n"},
	} {
		_, now, s := yard.Play(y, j[:i])
		due, _ := yard.Due(now)
		if s != api.Clear || !slices.Equal(due, want.due) || billsText(now.Bills) != want.text {
			t.Error(i, due, now.Bills, s)
		}
	}
	// a part that was settled and paid for is not any more: its wrong reading was dropped
	b := bookOf(t, but(7, strings.Replace(papers[7][1], "offset 12\n", "offset 12..13\n", 1)))
	b.Bills[0].Part = 7
	dropped := []api.YardEntry{{Kind: api.YardPay, B: 30}, {Kind: api.YardDrop}, {Kind: api.YardPay, B: 30}}
	snags, now, _ := yard.Play(b, dropped)
	due, _ := yard.Due(now)
	if !slices.Equal(snags, []api.Snag{api.Clear, api.Clear, api.Scant}) || now.Bills[0].Paid != 30 || !slices.Equal(due, on(0, 0)) {
		t.Error(snags, now.Bills, due)
	}
}
