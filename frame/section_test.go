package frame_test

import (
	"math/rand"
	"slices"
	"testing"

	"ribband/api"
	"ribband/frame"
)

func TestP3_1Examples(t *testing.T) {
	f, l := parse(t, textF), []int{3, 6, 12}
	for n, want := range map[int]int{99: 9, 100: 10} {
		if m, s := frame.Root(n); m != want || s != api.Clear {
			t.Error(n, m, s)
		}
	}
	if n, s := frame.At(f, l, 8); n != 9 || s != api.Clear {
		t.Error(n, s)
	}
	if n, s := frame.Girth(f, l, 0, 2); n != 15 || s != api.Clear {
		t.Error(n, s)
	}
	if n, s := frame.Area(f, l); n != 180 || s != api.Clear {
		t.Error(n, s)
	}
	if x, s := frame.Inner(f, l); !slices.Equal(x, []int{1, 4, 10}) || s != api.Clear {
		t.Error(x, s)
	}
	if is, s := frame.IsBoat(f, l); !is || s != api.Clear {
		t.Error(is, s)
	}
}

func tapes(t ...api.FrameTape) []api.FrameTape { return t }

func sticks(k ...api.FrameStick) []api.FrameStick { return k }

func TestP3_1CheckBook(t *testing.T) {
	good := api.FrameTape{From: 0, To: 2, Girth: to(0, 9999)}
	fine := api.FrameStick{Height: 12, Long: 959, Fits: true}
	bad := api.FramePoint{Height: -1, Breadth: to(1, 0)}
	for i, x := range []struct {
		change func(b *api.FrameBook)
		want   api.Snag
	}{
		{func(b *api.FrameBook) {}, api.Clear},
		{func(b *api.FrameBook) { b.Plank = 0 }, api.Clear},
		{func(b *api.FrameBook) { b.Plank = 20 }, api.Clear},
		{func(b *api.FrameBook) { b.Plank = 21 }, api.Range},
		{func(b *api.FrameBook) { b.Plank = -1 }, api.Range},
		{func(b *api.FrameBook) { b.Plank = least }, api.Range},
		{func(b *api.FrameBook) { b.Plank = most }, api.Range},
		{func(b *api.FrameBook) { b.Points = nil }, api.Many},
		{func(b *api.FrameBook) { b.Points = b.Points[:1] }, api.Many},
		{func(b *api.FrameBook) { b.Points, b.Sticks = b.Points[:2], nil }, api.Clear},
		{func(b *api.FrameBook) { b.Points = append(b.Points, above(12, 2)...) }, api.Clear},
		{func(b *api.FrameBook) { b.Points = append(b.Points, above(12, 3)...) }, api.Many},
		{func(b *api.FrameBook) { b.Points[0].Height = -1 }, api.Range},
		{func(b *api.FrameBook) { b.Points[0].Height = least }, api.Range},
		{func(b *api.FrameBook) { b.Points[2].Height = 959 }, api.Clear},
		{func(b *api.FrameBook) { b.Points[2].Height = 960 }, api.Range},
		{func(b *api.FrameBook) { b.Points[2].Height = most }, api.Range},
		{func(b *api.FrameBook) { b.Points[2].Height = 4 }, api.Turned},
		{func(b *api.FrameBook) { b.Points[2].Height = 3 }, api.Turned},
		{func(b *api.FrameBook) { b.Points[1].Height = 0 }, api.Turned},
		{func(b *api.FrameBook) { b.Points[1].Height = 1 }, api.Clear},
		{func(b *api.FrameBook) { b.Points[0].Height = 4 }, api.Turned},
		{func(b *api.FrameBook) { b.Points[0].Breadth = to(0, 2) }, api.Clear},
		{func(b *api.FrameBook) { b.Points[0].Breadth = to(0, 3) }, api.Range},
		{func(b *api.FrameBook) { b.Points[0].Breadth = to(-1, 0) }, api.Range},
		{func(b *api.FrameBook) { b.Points[0].Breadth = to(1, 0) }, api.Range},
		{func(b *api.FrameBook) { b.Points[2].Breadth = to(957, 959) }, api.Clear},
		{func(b *api.FrameBook) { b.Points[2].Breadth = one(959) }, api.Clear},
		{func(b *api.FrameBook) { b.Points[2].Breadth = to(959, 960) }, api.Range},
		{func(b *api.FrameBook) { b.Points[2].Breadth = to(least, most) }, api.Range},
		{func(b *api.FrameBook) { b.Points[2].Breadth = to(most, least) }, api.Range},
		{func(b *api.FrameBook) { b.Points[2].Breadth = to(0, most) }, api.Range},
		{func(b *api.FrameBook) { b.Tapes = tapes(good, good, good) }, api.Clear},
		{func(b *api.FrameBook) { b.Tapes = tapes(good, good, good, good) }, api.Many},
		{func(b *api.FrameBook) { b.Tapes[0].To = 3 }, api.Absent},
		{func(b *api.FrameBook) { b.Tapes[0].From = -1 }, api.Absent},
		{func(b *api.FrameBook) { b.Tapes[0].From = 3 }, api.Absent},
		{func(b *api.FrameBook) { b.Tapes[0].To = -1 }, api.Absent},
		{func(b *api.FrameBook) { b.Tapes[0].From, b.Tapes[0].To = most, least }, api.Absent},
		{func(b *api.FrameBook) { b.Tapes[0].From = 1 }, api.Turned},
		{func(b *api.FrameBook) { b.Tapes[0].From = 2 }, api.Turned},
		{func(b *api.FrameBook) { b.Tapes[0].Girth = to(0, 10000) }, api.Range},
		{func(b *api.FrameBook) { b.Tapes[0].Girth = to(-1, 5) }, api.Range},
		{func(b *api.FrameBook) { b.Tapes[0].Girth = to(6, 5) }, api.Range},
		{func(b *api.FrameBook) { b.Tapes[0].Girth = to(least, most) }, api.Range},
		{func(b *api.FrameBook) { b.Sticks = sticks(fine, fine, fine) }, api.Clear},
		{func(b *api.FrameBook) { b.Sticks = sticks(fine, fine, fine, fine) }, api.Many},
		{func(b *api.FrameBook) { b.Sticks[0].Height = 12 }, api.Clear},
		{func(b *api.FrameBook) { b.Sticks[0].Height = 13 }, api.Range},
		{func(b *api.FrameBook) { b.Sticks[0].Height = 0 }, api.Clear},
		{func(b *api.FrameBook) { b.Sticks[0].Height = -1 }, api.Range},
		{func(b *api.FrameBook) { b.Points[0].Height = 1; b.Sticks[0].Height = 0 }, api.Range},
		{func(b *api.FrameBook) { b.Sticks[0].Height = least }, api.Range},
		{func(b *api.FrameBook) { b.Sticks[0].Height = most }, api.Range},
		{func(b *api.FrameBook) { b.Sticks[0].Long = 0 }, api.Clear},
		{func(b *api.FrameBook) { b.Sticks[0].Long = 960 }, api.Range},
		{func(b *api.FrameBook) { b.Sticks[0].Long = -1 }, api.Range},
		{func(b *api.FrameBook) { b.Sticks[0].Long = least }, api.Range},
		// of several the first one (R1)
		{func(b *api.FrameBook) { b.Plank, b.Points = 21, nil }, api.Range},
		{func(b *api.FrameBook) { b.Points = []api.FramePoint{bad} }, api.Many},
		{func(b *api.FrameBook) { b.Points[2] = api.FramePoint{Height: 4, Breadth: to(1, 0)} }, api.Turned},
		{func(b *api.FrameBook) { b.Points[1] = api.FramePoint{Height: 960, Breadth: to(1, 0)} }, api.Range},
		{func(b *api.FrameBook) { b.Points[1].Height, b.Points[2].Breadth = 0, to(1, 0) }, api.Turned},
		{func(b *api.FrameBook) { b.Points[1].Breadth, b.Points[2].Height = to(1, 0), 0 }, api.Range},
		{func(b *api.FrameBook) { b.Points[2].Breadth, b.Tapes = to(1, 0), tapes(good, good, good, good) }, api.Range},
		{func(b *api.FrameBook) { b.Points[2].Height, b.Tapes = 0, tapes(good, good, good, good) }, api.Turned},
		{func(b *api.FrameBook) { b.Tapes = make([]api.FrameTape, 4) }, api.Many},
		{func(b *api.FrameBook) { b.Tapes = tapes(api.FrameTape{From: 3, To: 1, Girth: to(1, 0)}) }, api.Absent},
		{func(b *api.FrameBook) { b.Tapes = tapes(api.FrameTape{From: 2, To: 1, Girth: to(1, 0)}) }, api.Turned},
		{func(b *api.FrameBook) { b.Tapes = tapes(good, api.FrameTape{}, api.FrameTape{From: 3}) }, api.Turned},
		{func(b *api.FrameBook) { b.Tapes = tapes(good, api.FrameTape{From: 3}, api.FrameTape{}) }, api.Absent},
		{func(b *api.FrameBook) {
			b.Tapes = tapes(api.FrameTape{To: 1, Girth: to(1, 0)}, api.FrameTape{From: 3})
		}, api.Range},
		{func(b *api.FrameBook) { b.Tapes[0].To = 3; b.Sticks = sticks(fine, fine, fine, fine) }, api.Absent},
		{func(b *api.FrameBook) { b.Tapes[0].To = 0; b.Sticks[0].Long = -1 }, api.Turned},
		{func(b *api.FrameBook) { b.Sticks = sticks(fine, fine, fine, api.FrameStick{Long: -1}) }, api.Many},
		{func(b *api.FrameBook) { b.Sticks = sticks(fine, api.FrameStick{Height: 13}) }, api.Range},
	} {
		b := parse(t, textF)
		x.change(&b)
		if s := frame.CheckBook(b); s != x.want {
			t.Error(i, s)
		}
	}
}

// above returns points above a height.
func above(height, many int) (list []api.FramePoint) {
	for i := range many {
		list = append(list, api.FramePoint{Height: height + 1 + i, Breadth: one(5)})
	}
	return list
}

func TestP3_1RootSnags(t *testing.T) {
	for _, n := range []int{-1, 1000000, least, most} {
		if m, s := frame.Root(n); m != 0 || s != api.Range {
			t.Error(n, m, s)
		}
	}
	for n, want := range map[int]int{0: 0, 999999: 999} {
		if m, s := frame.Root(n); m != want || s != api.Clear {
			t.Error(n, m, s)
		}
	}
}

func TestP3_1At(t *testing.T) {
	const flat, falling = "frame 0\npoint 2 9\npoint 5 4\n", "frame 0\npoint 10 0\npoint 13 0\npoint 20 0\n"
	for i, x := range []struct {
		text     string
		breadths []int
		height   int
		want     int
		s        api.Snag
	}{
		{textF, []int{3, 6, 12}, 0, 3, api.Clear},
		{textF, []int{3, 6, 12}, 1, 3, api.Clear},
		{textF, []int{3, 6, 12}, 2, 4, api.Clear},
		{textF, []int{3, 6, 12}, 3, 5, api.Clear},
		{textF, []int{3, 6, 12}, 4, 6, api.Clear},
		{textF, []int{3, 6, 12}, 5, 6, api.Clear},
		{textF, []int{3, 6, 12}, 11, 11, api.Clear},
		{textF, []int{3, 6, 12}, 12, 12, api.Clear},
		{textF, []int{3, 6, 12}, 13, 0, api.Range},
		{textF, []int{3, 6, 12}, -1, 0, api.Range},
		{textF, []int{3, 6, 12}, least, 0, api.Range},
		{textF, []int{3, 6, 12}, most, 0, api.Range},
		{flat, []int{9, 4}, 1, 0, api.Range},
		{flat, []int{9, 4}, 2, 9, api.Clear}, // it is rounded down where it falls in, too
		{flat, []int{9, 4}, 3, 7, api.Clear},
		{flat, []int{9, 4}, 4, 5, api.Clear},
		{flat, []int{9, 4}, 5, 4, api.Clear},
		{flat, []int{9, 9}, 4, 9, api.Clear},
		{falling, []int{1, 0, 1}, 11, 0, api.Clear},
		{falling, []int{1, 0, 1}, 12, 0, api.Clear},
		{falling, []int{1, 0, 1}, 19, 0, api.Clear},
		{falling, []int{3, 0, 7}, 11, 2, api.Clear},
		{falling, []int{3, 0, 7}, 19, 6, api.Clear},
		{falling, []int{959, 0, 959}, 12, 319, api.Clear},
		{falling, []int{959, 0, 959}, 14, 137, api.Clear},
	} {
		if n, s := frame.At(parse(t, x.text), x.breadths, x.height); n != x.want || s != x.s {
			t.Error(i, n, s)
		}
	}
}

func TestP3_1Girth(t *testing.T) {
	const tall = "frame 0\npoint 0 0\npoint 959 0\n"
	for i, x := range []struct {
		text     string
		breadths []int
		from, to int
		want     int
		s        api.Snag
	}{
		{textF, []int{3, 6, 12}, 0, 1, 5, api.Clear},
		{textF, []int{3, 6, 12}, 1, 2, 10, api.Clear},
		{textF, []int{3, 7, 12}, 0, 2, 14, api.Clear}, // 5.66 and 9.43 are 15.09, but each is rounded
		{textF, []int{12, 6, 3}, 0, 2, 15, api.Clear},
		{textF, []int{0, 0, 0}, 0, 2, 12, api.Clear},
		{tall, []int{0, 959}, 0, 1, 1356, api.Clear}, // of more than Root takes
		{tall, []int{959, 0}, 0, 1, 1356, api.Clear},
		{textF, []int{3, 6, 12}, 2, 1, 0, api.Turned},
		{textF, []int{3, 6, 12}, 1, 1, 0, api.Turned},
		{textF, []int{3, 6, 12}, 3, 1, 0, api.Absent}, // not there comes before out of order
		{textF, []int{3, 6, 12}, 0, 3, 0, api.Absent},
		{textF, []int{3, 6, 12}, -1, 1, 0, api.Absent},
		{textF, []int{3, 6, 12}, 1, -1, 0, api.Absent},
		{textF, []int{3, 6, 12}, least, most, 0, api.Absent},
		{textF, []int{3, 6, 12}, 3, 3, 0, api.Absent},
		{textF, []int{3}, 0, 9, 0, api.Many},
		{textF, []int{3, 6, 960}, 1, 1, 0, api.Range},
	} {
		if n, s := frame.Girth(parse(t, x.text), x.breadths, x.from, x.to); n != x.want || s != x.s {
			t.Error(i, n, s)
		}
	}
}

func TestP3_1Whole(t *testing.T) {
	for i, x := range []struct {
		text     string
		breadths []int
		area     int
		inner    []int
		is       bool
	}{
		{textF, []int{3, 6, 12}, 180, []int{1, 4, 10}, true},
		{textF, []int{3, 7, 13}, 200, []int{1, 5, 11}, true},
		{textF, []int{2, 1, 0}, 20, []int{0, 0, 0}, false}, // the plank is as thick as the frame is broad, or thicker
		{textF, []int{3, 8, 12}, 204, []int{1, 6, 10}, false},
		{textF, []int{3, 5, 12}, 168, []int{1, 3, 10}, false},
		{textF, []int{3, 6, 14}, 196, []int{1, 4, 12}, false},
		{"frame 0\npoint 9 959\npoint 959 957..959\n", []int{959, 959}, 2 * 959 * 950, []int{959, 959}, true},
		{"frame 20\npoint 9 959\npoint 959 957..959\n", []int{19, 21}, 40 * 950, []int{0, 1}, false},
		{pointsF + "tape 0 1 4\n", []int{3, 6, 12}, 180, []int{1, 4, 10}, false},
		{pointsF + "tape 0 1 4..5\n", []int{3, 6, 12}, 180, []int{1, 4, 10}, true},
		{pointsF + "tape 0 1 6..9\n", []int{3, 6, 12}, 180, []int{1, 4, 10}, false},
		{pointsF + "tape 0 1 5\ntape 1 2 9\n", []int{3, 6, 12}, 180, []int{1, 4, 10}, false},
		{pointsF + "tape 0 1 5\ntape 1 2 9\n", []int{3, 7, 12}, 192, []int{1, 5, 10}, true},
		{pointsF + "stick 8 9 fits\n", []int{3, 6, 12}, 180, []int{1, 4, 10}, true},
		{pointsF + "stick 8 10 fits\n", []int{3, 6, 12}, 180, []int{1, 4, 10}, false},
		{pointsF + "stick 8 9 not\n", []int{3, 6, 12}, 180, []int{1, 4, 10}, false},
		{pointsF + "stick 8 10 not\n", []int{3, 6, 12}, 180, []int{1, 4, 10}, true},
		{pointsF + "stick 8 9 fits\nstick 0 4 fits\n", []int{3, 6, 12}, 180, []int{1, 4, 10}, false},
	} {
		b := parse(t, x.text)
		if n, s := frame.Area(b, x.breadths); n != x.area || s != api.Clear {
			t.Error(i, "Area", n, s)
		}
		if l, s := frame.Inner(b, x.breadths); !slices.Equal(l, x.inner) || s != api.Clear {
			t.Error(i, "Inner", l, s)
		}
		if is, s := frame.IsBoat(b, x.breadths); is != x.is || s != api.Clear {
			t.Error(i, "IsBoat", is, s)
		}
	}
}

func TestP3_1BreadthsSnags(t *testing.T) {
	for i, x := range []struct {
		breadths []int
		want     api.Snag
	}{
		{nil, api.Many},
		{[]int{}, api.Many},
		{[]int{3, 6}, api.Many},
		{[]int{3, 6, 12, 12}, api.Many},
		{[]int{-1, 6}, api.Many},
		{make([]int, 1<<20), api.Many},
		{[]int{-1, 6, 12}, api.Range},
		{[]int{3, 6, 960}, api.Range},
		{[]int{3, least, 12}, api.Range},
		{[]int{3, most, 12}, api.Range},
		{[]int{0, 959, 0}, api.Clear},
	} {
		b := parse(t, textF)
		for k, results := range breadthsCalls(b, x.breadths, 8, 0, 2) {
			if s := snagOf(t, results); s != x.want {
				t.Error(i, k, s)
			}
		}
		b.Sticks[0].Height = 13
		for k, results := range breadthsCalls(b, x.breadths, 8, 0, 2) {
			if s := snagOf(t, results); s != api.Range {
				t.Error(i, k, s)
			}
		}
	}
}

func TestP3_1Everything(t *testing.T) {
	seen := map[bool]int{}
	eachBook(t, 400, func(t *testing.T, b api.FrameBook, o *oracle, r *rand.Rand) {
		if s := frame.CheckBook(b); s != api.Clear {
			t.Error(s)
		}
		lists := slices.Clone(o.ways[:min(len(o.ways), 20)])
		for range 20 {
			lists = append(lists, randomBreadths(r, b))
		}
		for _, l := range lists {
			for _, height := range heights(r, b) {
				if n, s := frame.At(b, l, height); n != at(b, l, height) || s != api.Clear {
					t.Error("At", l, height, n, s)
				}
			}
			eachStretch(b, func(from, to int) {
				if n, s := frame.Girth(b, l, from, to); n != girth(b, l, from, to) || s != api.Clear {
					t.Error("Girth", l, from, to, n, s)
				}
			})
			if n, s := frame.Area(b, l); n != area(b, l) || s != api.Clear {
				t.Error("Area", l, n, s)
			}
			inner, s := frame.Inner(b, l)
			if len(inner) != len(l) || s != api.Clear {
				t.Fatal("Inner", l, inner, s)
			}
			for i, n := range inner {
				if l[i] >= b.Plank && n != l[i]-b.Plank || l[i] < b.Plank && n != 0 {
					t.Error("Inner", l, inner)
				}
			}
			seen[o.has(l)]++
			if is, s := frame.IsBoat(b, l); is != o.has(l) || s != api.Clear {
				t.Error("IsBoat", l, is, s)
			}
		}
	})
	if seen[true] < 500 || seen[false] < 500 {
		t.Error("the breadths are too much alike", seen)
	}
}

func TestP3_7Roots(t *testing.T) {
	for n := range api.MaxFrameRoot + 1 {
		if m, s := frame.Root(n); m < 0 || m*m > n || (m+1)*(m+1) <= n || s != api.Clear {
			t.Fatal(n, m, s)
		}
	}
}

func TestP3_7Girths(t *testing.T) {
	eachBook(t, 150, func(t *testing.T, b api.FrameBook, o *oracle, r *rand.Rand) {
		for range 20 {
			l := randomBreadths(r, b)
			eachStretch(b, func(from, to int) {
				n, _ := frame.Girth(b, l, from, to)
				rises, wider := 0, 0
				for i := from; i < to; i++ {
					rises += b.Points[i+1].Height - b.Points[i].Height
					wider += far(l[i], l[i+1])
				}
				if n < rises || n < far(l[from], l[to]) || n > rises+wider {
					t.Error("Girth", l, from, to, n, rises, wider)
				}
				for meet := from + 1; meet < to; meet++ {
					below, _ := frame.Girth(b, l, from, meet)
					beyond, _ := frame.Girth(b, l, meet, to)
					if below+beyond != n {
						t.Error("Girth", l, from, meet, to, below, beyond, n)
					}
				}
			})
		}
	})
}

func TestP3_8Straight(t *testing.T) {
	eachBook(t, 150, func(t *testing.T, b api.FrameBook, o *oracle, r *rand.Rand) {
		for range 20 {
			l := randomBreadths(r, b)
			for i, p := range b.Points {
				if n, s := frame.At(b, l, p.Height); n != l[i] || s != api.Clear {
					t.Error("At a point", l, i, n, s)
				}
				if i == 0 {
					continue
				}
				before := l[i-1]
				for height := b.Points[i-1].Height; height <= p.Height; height++ {
					n, _ := frame.At(b, l, height)
					if n < min(l[i-1], l[i]) || n > max(l[i-1], l[i]) {
						t.Error("At is not between", l, height, n)
					}
					if l[i] >= l[i-1] && n < before || l[i] <= l[i-1] && n > before {
						t.Error("At goes back", l, height, before, n)
					}
					before = n
				}
			}
		}
	})
}

// A point on the straight between its neighbours changes neither breadths nor area.
func TestP3_8OnTheStraight(t *testing.T) {
	tried := 0
	eachBook(t, 400, func(t *testing.T, b api.FrameBook, o *oracle, r *rand.Rand) {
		if len(b.Points) == api.MaxFramePoints {
			return
		}
		l := randomBreadths(r, b)
		i := 1 + r.Intn(len(l)-1)
		low, high := b.Points[i-1].Height, b.Points[i].Height
		l[i] = min(l[i-1]+(high-low)*r.Intn(3), api.MaxFrameMeasure)
		for height := low + 1; height < high; height++ {
			if (l[i]-l[i-1])*(height-low)%(high-low) != 0 {
				continue
			}
			tried++
			breadth := l[i-1] + (l[i]-l[i-1])*(height-low)/(high-low)
			more := api.FrameBook{Plank: b.Plank, Points: slices.Insert(slices.Clone(b.Points), i, api.FramePoint{Height: height})}
			x := slices.Insert(slices.Clone(l), i, breadth)
			one, _ := frame.Area(b, l)
			if two, s := frame.Area(more, x); one != two || s != api.Clear {
				t.Error("Area", l, x, one, two, s)
			}
			for height := b.Points[0].Height; height <= b.Points[len(b.Points)-1].Height; height++ {
				one, _ := frame.At(b, l, height)
				if two, s := frame.At(more, x, height); one != two || s != api.Clear {
					t.Error("At", l, x, height, one, two, s)
				}
			}
		}
	})
	if tried < 200 {
		t.Error("too few points lie on a straight", tried)
	}
}

func TestP3_10Broader(t *testing.T) {
	eachBook(t, 150, func(t *testing.T, b api.FrameBook, o *oracle, r *rand.Rand) {
		for range 20 {
			l := randomBreadths(r, b)
			broad := slices.Clone(l)
			for i := range broad {
				broad[i] = min(broad[i]+r.Intn(4), api.MaxFrameMeasure)
			}
			within, _ := frame.Inner(b, l)
			wider, _ := frame.Inner(b, broad)
			for i := range l {
				if within[i] > l[i] || wider[i] < within[i] {
					t.Error("Inner", l, broad, within, wider)
				}
			}
			for _, pair := range [][2][]int{{l, broad}, {within, l}, {within, wider}} {
				one, _ := frame.Area(b, pair[0])
				if two, s := frame.Area(b, pair[1]); two < one || s != api.Clear {
					t.Error("Area", pair, one, two, s)
				}
				for height := b.Points[0].Height; height <= b.Points[len(b.Points)-1].Height; height++ {
					one, _ := frame.At(b, pair[0], height)
					if two, s := frame.At(b, pair[1], height); two < one || s != api.Clear {
						t.Error("At", pair, height, one, two, s)
					}
				}
			}
		}
	})
}
