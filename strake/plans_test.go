package strake_test

import (
	"math/rand"
	"slices"
	"testing"

	"ribband/api"
	"ribband/strake"
)

func plan(rows ...[]int) [][]int { return rows }

func row2(a, b int) []int { return []int{a, b} }

func TestP5_1Examples(t *testing.T) {
	b := parse(t, textS)
	if l, s := strake.Equal(7, 2); !slices.Equal(l, []int{3, 4}) || s != api.Clear {
		t.Error(l, s)
	}
	if is, s := strake.Fair(b, []int{5, 7, 6}); is || s != api.Clear {
		t.Error(is, s)
	}
	if is, s := strake.Fair(b, []int{6, 7, 7}); !is || s != api.Clear {
		t.Error(is, s)
	}
	want := plan(row2(3, 3), row2(3, 4), row2(3, 4))
	if n, s := strake.Plans(b, []int{6, 7, 7}); n != 4 || s != api.Clear {
		t.Error(n, s)
	}
	if p, found, s := strake.Plan(b, []int{6, 7, 7}); !samePlan(p, want) || !found || s != api.Clear {
		t.Error(p, found, s)
	}
	if p, n, found, s := strake.Straightest(b, []int{6, 7, 7}); !samePlan(p, want) || n != 1 || !found || s != api.Clear {
		t.Error(p, n, found, s)
	}
	want[0] = row2(2, 3)
	if n, s := strake.Plans(b, []int{5, 7, 7}); n != 2 || s != api.Clear {
		t.Error(n, s)
	}
	if p, found, s := strake.Plan(b, []int{5, 7, 7}); !samePlan(p, want) || !found || s != api.Clear {
		t.Error(p, found, s)
	}
}

func TestP5_1CheckBook(t *testing.T) {
	for i, x := range []struct {
		change func(b *api.StrakeBook)
		want   api.Snag
	}{
		{func(b *api.StrakeBook) {}, api.Clear},
		{func(b *api.StrakeBook) { b.Strakes = 0 }, api.Range},
		{func(b *api.StrakeBook) { b.Strakes = 4 }, api.Clear},
		{func(b *api.StrakeBook) { b.Strakes = 5 }, api.Range},
		{func(b *api.StrakeBook) { b.Strakes = least }, api.Range},
		{func(b *api.StrakeBook) { b.Strakes = most }, api.Range},
		{func(b *api.StrakeBook) { b.Least = 0 }, api.Range},
		{func(b *api.StrakeBook) { b.Least = 1 }, api.Clear},
		{func(b *api.StrakeBook) { b.Least = 4 }, api.Clear},
		{func(b *api.StrakeBook) { b.Least = 5 }, api.Range},
		{func(b *api.StrakeBook) { b.Least = least }, api.Range},
		{func(b *api.StrakeBook) { b.Least = most }, api.Range},
		{func(b *api.StrakeBook) { b.Most = 1 }, api.Range},
		{func(b *api.StrakeBook) { b.Most = 2 }, api.Clear},
		{func(b *api.StrakeBook) { b.Most = 6 }, api.Clear},
		{func(b *api.StrakeBook) { b.Most = 7 }, api.Range},
		{func(b *api.StrakeBook) { b.Most = least }, api.Range},
		{func(b *api.StrakeBook) { b.Most = most }, api.Range},
		{func(b *api.StrakeBook) { b.Least, b.Most = least, most }, api.Range},
		{func(b *api.StrakeBook) { b.Least, b.Most = most, least }, api.Range},
		{func(b *api.StrakeBook) { b.Least, b.Most = 20, 20 }, api.Clear},
		{func(b *api.StrakeBook) { b.Least, b.Most = 16, 20 }, api.Clear},
		{func(b *api.StrakeBook) { b.Least, b.Most = 17, 21 }, api.Range},
		{func(b *api.StrakeBook) { b.Least, b.Most = 21, 21 }, api.Range},
		{func(b *api.StrakeBook) { b.Taper = -1 }, api.Range},
		{func(b *api.StrakeBook) { b.Taper = 0 }, api.Clear},
		{func(b *api.StrakeBook) { b.Taper = 9 }, api.Clear},
		{func(b *api.StrakeBook) { b.Taper = 10 }, api.Range},
		{func(b *api.StrakeBook) { b.Bend = -1 }, api.Range},
		{func(b *api.StrakeBook) { b.Bend = 0 }, api.Clear},
		{func(b *api.StrakeBook) { b.Bend = 99 }, api.Clear},
		{func(b *api.StrakeBook) { b.Bend = 100 }, api.Range},
		{func(b *api.StrakeBook) { b.Girths = nil }, api.Many},
		{func(b *api.StrakeBook) { b.Girths = b.Girths[:1] }, api.Many},
		{func(b *api.StrakeBook) { b.Girths = b.Girths[:2] }, api.Clear},
		{func(b *api.StrakeBook) { b.Girths = make([]api.Span, 4) }, api.Clear},
		{func(b *api.StrakeBook) { b.Girths = make([]api.Span, 5) }, api.Many},
		{func(b *api.StrakeBook) { b.Girths[2] = to(0, 2) }, api.Clear},
		{func(b *api.StrakeBook) { b.Girths[2] = to(0, 3) }, api.Range},
		{func(b *api.StrakeBook) { b.Girths[2] = to(97, 99) }, api.Clear},
		{func(b *api.StrakeBook) { b.Girths[2] = to(98, 100) }, api.Range},
		{func(b *api.StrakeBook) { b.Girths[2] = to(-1, 0) }, api.Range},
		{func(b *api.StrakeBook) { b.Girths[2] = to(7, 6) }, api.Range},
		{func(b *api.StrakeBook) { b.Girths[2] = to(least, most) }, api.Range},
		{func(b *api.StrakeBook) { b.Girths[2] = to(most, least) }, api.Range},
		{func(b *api.StrakeBook) { b.Marks = nil }, api.Clear},
		{func(b *api.StrakeBook) { b.Marks = make([]api.StrakeMark, 3) }, api.Clear},
		{func(b *api.StrakeBook) { b.Marks = make([]api.StrakeMark, 4) }, api.Many},
		{func(b *api.StrakeBook) { b.Marks[0].Frame = 2 }, api.Clear},
		{func(b *api.StrakeBook) { b.Marks[0].Frame = 3 }, api.Absent},
		{func(b *api.StrakeBook) { b.Marks[0].Frame = -1 }, api.Absent},
		{func(b *api.StrakeBook) { b.Marks[0].Frame = most }, api.Absent},
		{func(b *api.StrakeBook) { b.Marks[0].Strake = 2 }, api.Absent},
		{func(b *api.StrakeBook) { b.Marks[0].Strake = -1 }, api.Absent},
		{func(b *api.StrakeBook) { b.Marks[0].Strake = least }, api.Absent},
		{func(b *api.StrakeBook) { b.Strakes = 1 }, api.Absent},
		{func(b *api.StrakeBook) { b.Marks[0].Width = to(0, 20) }, api.Clear},
		{func(b *api.StrakeBook) { b.Marks[0].Width = one(0) }, api.Clear},
		{func(b *api.StrakeBook) { b.Marks[0].Width = to(0, 21) }, api.Range},
		{func(b *api.StrakeBook) { b.Marks[0].Width = to(-1, 0) }, api.Range},
		{func(b *api.StrakeBook) { b.Marks[0].Width = to(3, 2) }, api.Range},
		{func(b *api.StrakeBook) { b.Marks[0].Width = to(least, most) }, api.Range},
		// of several snags the first one
		{func(b *api.StrakeBook) { b.Bend, b.Girths = -1, nil }, api.Range},
		{func(b *api.StrakeBook) { b.Strakes, b.Marks[0].Width = 0, one(-1) }, api.Range},
		{func(b *api.StrakeBook) { b.Girths = slices.Repeat([]api.Span{one(-1)}, 5) }, api.Many},
		{func(b *api.StrakeBook) { b.Girths[2], b.Marks = to(7, 6), make([]api.StrakeMark, 4) }, api.Range},
		{func(b *api.StrakeBook) { b.Marks = slices.Repeat([]api.StrakeMark{mark(9, 9, one(-1))}, 4) }, api.Many},
		{func(b *api.StrakeBook) { b.Marks[0] = mark(3, 0, one(-1)) }, api.Absent},
		{func(b *api.StrakeBook) { b.Marks = append(b.Marks, mark(0, 0, one(-1)), mark(3, 0, one(1))) }, api.Range},
		{func(b *api.StrakeBook) { b.Marks = append(b.Marks, mark(3, 0, one(1)), mark(0, 0, one(-1))) }, api.Absent},
	} {
		b := parse(t, textS)
		x.change(&b)
		if s := strake.CheckBook(b); s != x.want {
			t.Error(i, s)
		}
	}
}

func TestP5_1Equal(t *testing.T) {
	for i, x := range []struct {
		girth, strakes int
		want           []int
		s              api.Snag
	}{
		{7, 2, []int{3, 4}, api.Clear},
		{10, 4, []int{2, 2, 3, 3}, api.Clear},
		{9, 4, []int{2, 2, 2, 3}, api.Clear},
		{11, 4, []int{2, 3, 3, 3}, api.Clear},
		{12, 4, []int{3, 3, 3, 3}, api.Clear},
		{1, 3, []int{0, 0, 1}, api.Clear},
		{0, 3, []int{0, 0, 0}, api.Clear},
		{99, 1, []int{99}, api.Clear},
		{99, 4, []int{24, 25, 25, 25}, api.Clear},
		{100, 1, nil, api.Range},
		{-1, 1, nil, api.Range},
		{5, 0, nil, api.Range},
		{5, 5, nil, api.Range},
		{most, 4, nil, api.Range},
		{least, 4, nil, api.Range},
		{5, most, nil, api.Range},
		{5, least, nil, api.Range},
	} {
		if l, s := strake.Equal(x.girth, x.strakes); !slices.Equal(l, x.want) || s != x.s {
			t.Error(i, l, s)
		}
	}
	for girth := range api.MaxStrakeGirth + 1 {
		for strakes := 1; strakes <= api.MaxStrakeStrakes; strakes++ {
			l, s := strake.Equal(girth, strakes)
			if len(l) != strakes || sum(l) != girth || !slices.IsSorted(l) || l[strakes-1]-l[0] > 1 || s != api.Clear {
				t.Error(girth, strakes, l, s)
			}
		}
	}
}

func TestP5_1IsPlan(t *testing.T) {
	good := []int{6, 7, 7}
	for i, x := range []struct {
		girths []int
		plan   [][]int
		is     bool
		s      api.Snag
	}{
		{good, plan(row2(3, 3), row2(3, 4), row2(3, 4)), true, api.Clear},
		{good, plan(row2(3, 3), row2(4, 3), row2(3, 4)), true, api.Clear},
		{good, plan(row2(2, 4), row2(3, 4), row2(3, 4)), false, api.Clear},           // the mark is wrong
		{good, plan(row2(3, 3), row2(3, 4), row2(4, 4)), false, api.Clear},           // not the girth
		{good, plan(row2(3, 3), row2(3, 4), row2(2, 4)), false, api.Clear},           //
		{good, plan(row2(3, 3), row2(2, 5), row2(3, 4)), false, api.Clear},           // too wide
		{[]int{4, 5, 5}, plan(row2(1, 3), row2(2, 3), row2(2, 3)), false, api.Clear}, // too narrow
		{[]int{5, 7, 7}, plan(row2(2, 3), row2(4, 3), row2(3, 4)), false, api.Clear}, // it tapers too much
		{[]int{5, 6, 7}, plan(row2(2, 3), row2(2, 4), row2(4, 3)), false, api.Clear}, // up to the last frame
		{[]int{5, 7, 6}, plan(row2(2, 3), row2(3, 4), row2(3, 3)), true, api.Clear},  // they need not be fair
		{[]int{7, 6, 5}, plan(row2(4, 3), row2(3, 3), row2(2, 3)), true, api.Clear},  // nor of the spans
		{good, nil, false, api.Many},                                                      //
		{good, plan(row2(3, 3), row2(3, 4)), false, api.Many},                             //
		{good, plan(row2(3, 3), row2(3, 4), row2(3, 4), row2(3, 4)), false, api.Many},     //
		{good, plan(row2(3, 3), row2(3, 4), nil), false, api.Many},                        //
		{good, plan([]int{3}, row2(3, 4), row2(3, 4)), false, api.Many},                   //
		{good, plan([]int{3, 3, 0}, row2(3, 4), row2(3, 4)), false, api.Many},             //
		{good, plan(row2(3, 21), row2(3, -1), []int{3}), false, api.Many},                 // how many there are comes before all widths
		{good, plan(row2(3, 21), row2(3, 4), row2(3, 4)), false, api.Range},               //
		{good, plan(row2(3, 3), row2(3, 4), row2(-1, 4)), false, api.Range},               //
		{good, plan(row2(3, 3), row2(3, 4), row2(most, least)), false, api.Range},         //
		{good, plan(row2(0, 20), row2(20, 0), row2(0, 0)), false, api.Clear},              //
		{good[:2], nil, false, api.Many},                                                  //
		{[]int{6, 7, 100}, nil, false, api.Range},                                         // girths come first
		{[]int{6, 7, 100}, plan(row2(3, 3), row2(3, 4), row2(3, 4)), false, api.Range},    //
		{[]int{-1, 7, 7}, plan(row2(3, 3), row2(3, 4), row2(3, 4)), false, api.Range},     //
		{[]int{most, least, 0}, plan(row2(3, 3), row2(3, 4)), false, api.Range},           //
		{[]int{6, 7, 7, 7}, plan(row2(3, 3), row2(3, 4), row2(3, 21)), false, api.Many},   //
		{[]int{6, 7, 7, 200}, plan(row2(3, 3), row2(3, 4), row2(3, 21)), false, api.Many}, //
	} {
		if is, s := strake.IsPlan(parse(t, textS), x.girths, x.plan); is != x.is || s != x.s {
			t.Error(i, is, s)
		}
	}
}

func TestP5_1Fair(t *testing.T) {
	const four = "strake 1 1 5 9 3\ngirth 4..6\ngirth 3..5\ngirth 4..6\ngirth 9..11\n"
	for i, x := range []struct {
		text   string
		girths []int
		fair   bool
		s      api.Snag
	}{
		{textS, []int{6, 7, 7}, true, api.Clear},
		{textS, []int{6, 7, 6}, true, api.Clear},  // it bends as much as it may
		{textS, []int{5, 7, 7}, true, api.Clear},  //
		{textS, []int{5, 7, 6}, false, api.Clear}, // too round
		{textS, []int{4, 7, 7}, false, api.Clear}, // not of the first span
		{textS, []int{6, 7, 8}, false, api.Clear}, // nor of the last one
		{textS, []int{6, 6, 6}, false, api.Clear},
		{textS, []int{0, 0, 99}, false, api.Clear},
		{textS, []int{6, 7}, false, api.Many},
		{textS, []int{6, 7, 7, 7}, false, api.Many},
		{textS, nil, false, api.Many},
		{textS, []int{6, 7, 100}, false, api.Range},
		{textS, []int{-1, 7, 7}, false, api.Range},
		{textN, []int{5, 7, 6}, false, api.Clear},
		{textO, []int{3, 6}, true, api.Clear}, // two frames do not bend, and need not have a plan
		{textC, []int{6, 7, 7}, true, api.Clear},
		{four, []int{4, 4, 6, 9}, true, api.Clear},
		{four, []int{4, 4, 6, 11}, true, api.Clear},
		{four, []int{4, 4, 5, 10}, false, api.Clear}, // too hollow at the third frame
		{four, []int{6, 3, 4, 9}, false, api.Clear},  // and at the second one
		{four, []int{6, 4, 5, 9}, true, api.Clear},
	} {
		if is, s := strake.Fair(parse(t, x.text), x.girths); is != x.fair || s != x.s {
			t.Error(i, is, s)
		}
	}
}

func TestP5_1Plans(t *testing.T) {
	for i, x := range []struct {
		text        string
		girths      []int
		plans       int
		first, best [][]int
		change      int
		s           api.Snag
	}{
		{textS, []int{6, 7, 6}, 4, plan(row2(3, 3), row2(3, 4), row2(2, 4)), plan(row2(3, 3), row2(3, 4), row2(2, 4)), 2, api.Clear},
		{girthsS, []int{6, 7, 6}, 8, plan(row2(2, 4), row2(3, 4), row2(2, 4)), plan(row2(2, 4), row2(3, 4), row2(2, 4)), 2, api.Clear},
		{textS, []int{5, 7, 6}, 2, plan(row2(2, 3), row2(3, 4), row2(2, 4)), plan(row2(2, 3), row2(3, 4), row2(2, 4)), 3, api.Clear}, // they need not be fair
		{textC, []int{6, 7, 7}, 0, nil, nil, 0, api.Clear},
		{textS, []int{0, 0, 99}, 0, nil, nil, 0, api.Clear},
		{textS, []int{6, 7, 9}, 0, nil, nil, 0, api.Clear},
		{textS, []int{4, 7, 7}, 0, nil, nil, 0, api.Clear}, // each girth has widths, but they taper too much
		{textO, []int{4, 4}, 1, plan([]int{4}, []int{4}), plan([]int{4}, []int{4}), 0, api.Clear},
		{textO, []int{4, 5}, 0, nil, nil, 0, api.Clear},
		// the least widths of the first frame do not go on, nor those of the second one
		{girthsS, []int{6, 8, 8}, 1, plan(row2(3, 3), row2(4, 4), row2(4, 4)), plan(row2(3, 3), row2(4, 4), row2(4, 4)), 2, api.Clear},
		{girthsS + "mark 2 0 4\n", []int{6, 6, 6}, 5, plan(row2(2, 4), row2(3, 3), row2(4, 2)), plan(row2(4, 2), row2(4, 2), row2(4, 2)), 0, api.Clear},
		// the first plan is not the straightest one
		{girthsS + "mark 1 0 3\n", []int{6, 6, 6}, 9, plan(row2(2, 4), row2(3, 3), row2(2, 4)), plan(row2(3, 3), row2(3, 3), row2(3, 3)), 0, api.Clear},
		// of several the first one, which differs from others in the middle only
		{"strake 2 1 3 2 9\ngirth 4\ngirth 4\ngirth 4\nmark 0 0 1\nmark 2 0 3\n", []int{4, 4, 4}, 3, plan(row2(1, 3), row2(1, 3), row2(3, 1)), plan(row2(1, 3), row2(1, 3), row2(3, 1)), 4, api.Clear},
		// two marks of one place, and one of another frame
		{girthsS + "mark 0 0 2..3\nmark 0 0 3..4\nmark 1 0 0..3\n", []int{6, 7, 7}, 2, plan(row2(3, 3), row2(3, 4), row2(3, 4)), plan(row2(3, 3), row2(3, 4), row2(3, 4)), 1, api.Clear},
		{girthsS + "mark 0 0 2\nmark 0 0 3\n", []int{6, 7, 7}, 0, nil, nil, 0, api.Clear},
		{girthsS + "mark 0 0 5..20\n", []int{6, 7, 7}, 0, nil, nil, 0, api.Clear},
		{textS, nil, 0, nil, nil, 0, api.Many},
		{textS, []int{6, 7}, 0, nil, nil, 0, api.Many},
		{textS, []int{6, 7, 7, 7}, 0, nil, nil, 0, api.Many},
		{textS, []int{6, 7, 100}, 0, nil, nil, 0, api.Range},
		{textS, []int{6, least, 9}, 0, nil, nil, 0, api.Range},
		{textS, []int{100, 7}, 0, nil, nil, 0, api.Many},
	} {
		b := parse(t, x.text)
		if n, s := strake.Plans(b, x.girths); n != x.plans || s != x.s {
			t.Error(i, "Plans", n, s)
		}
		if p, found, s := strake.Plan(b, x.girths); !samePlan(p, x.first) || found != (x.plans > 0) || s != x.s {
			t.Error(i, "Plan", p, found, s)
		}
		if p, n, found, s := strake.Straightest(b, x.girths); !samePlan(p, x.best) || n != x.change || found != (x.plans > 0) || s != x.s {
			t.Error(i, "Straightest", p, n, found, s)
		}
	}
}

func TestP5_1Everything(t *testing.T) {
	many, fair, notFirst := map[bool]int{}, map[bool]int{}, 0
	eachBook(t, 600, func(t *testing.T, b api.StrakeBook, o *oracle, r *rand.Rand) {
		for range 6 {
			g := randomGirths(r, b)
			plans := plansOf(b, g)
			many[len(plans) > 0]++
			fair[isFair(b, g)]++
			if is, s := strake.Fair(b, g); is != isFair(b, g) || s != api.Clear {
				t.Error("Fair", g, is, s)
			}
			if n, s := strake.Plans(b, g); n != len(plans) || s != api.Clear {
				t.Error("Plans", g, n, s, len(plans))
			}
			var first, best [][]int
			change := 0
			if len(plans) > 0 {
				first = plans[0]
				best = slices.MinFunc(plans, func(x, y [][]int) int { return changeOf(x) - changeOf(y) })
				change = changeOf(best)
			}
			if !samePlan(first, best) {
				notFirst++
			}
			if p, found, s := strake.Plan(b, g); !samePlan(p, first) || found != (first != nil) || s != api.Clear {
				t.Error("Plan", g, p, found, s)
			}
			if p, n, found, s := strake.Straightest(b, g); !samePlan(p, best) || n != change || found != (best != nil) || s != api.Clear {
				t.Error("Straightest", g, p, n, found, s, best, change)
			}
		}
	})
	if many[true] < 500 || many[false] < 500 || fair[true] < 500 || fair[false] < 500 || notFirst < 100 {
		t.Error("the books are too much alike", many, fair, notFirst)
	}
}

// Plans are tried that are right but for a width, or are about other girths.
func TestP5_1EveryPlan(t *testing.T) {
	are := map[bool]int{}
	eachBook(t, 400, func(t *testing.T, b api.StrakeBook, o *oracle, r *rand.Rand) {
		for range 10 {
			p := randomPlan(r, b, len(b.Girths))
			g := girthsOf(p)
			if plans := plansOf(b, g); len(plans) > 0 {
				for _, row := range plans[r.Intn(len(plans))] {
					copy(p[0], row)
					p = append(p[1:], p[0])
				}
			}
			frame, strakes := r.Intn(len(p)), r.Perm(b.Strakes)
			switch r.Intn(4) {
			case 0:
				g[frame] = max(g[frame]-1, 0)
			case 1:
				p[frame][strakes[0]] = min(p[frame][strakes[0]]+1, api.MaxStrakeWidth)
				g[frame] = sum(p[frame])
			case 2:
				p[frame][strakes[0]], p[frame][strakes[b.Strakes-1]] = p[frame][strakes[b.Strakes-1]], p[frame][strakes[0]]
			}
			want := isPlan(b, g, p)
			are[want]++
			if is, s := strake.IsPlan(b, g, p); is != want || s != api.Clear {
				t.Error(g, p, is, s)
			}
		}
	})
	if are[true] < 500 || are[false] < 500 {
		t.Error("the plans are too much alike", are)
	}
}

// As many plans as there can be: all of 85 divisions go on to all others.
func TestGreatestPlans(t *testing.T) {
	b := api.StrakeBook{Strakes: 4, Least: 16, Most: 20, Taper: 9, Bend: 99, Girths: slices.Repeat([]api.Span{to(71, 73)}, 4)}
	g := []int{72, 72, 72, 72}
	if n, s := strake.Plans(b, g); n != 85*85*85*85 || s != api.Clear {
		t.Error(n, s)
	}
	low := []int{16, 16, 20, 20}
	if p, found, s := strake.Plan(b, g); !samePlan(p, plan(low, low, low, low)) || !found || s != api.Clear {
		t.Error(p, found, s)
	}
	if p, n, found, s := strake.Straightest(b, g); !samePlan(p, plan(low, low, low, low)) || n != 0 || !found || s != api.Clear {
		t.Error(p, n, found, s)
	}
	b.Taper = 0
	if n, s := strake.Plans(b, g); n != 85 || s != api.Clear {
		t.Error(n, s)
	}
	if n, s := strake.Plans(b, []int{72, 72, 72, 71}); n != 0 || s != api.Clear {
		t.Error(n, s)
	}
}

// Without marks, girths have a plan just if their equal divisions are one.
func TestP5_6Equal(t *testing.T) {
	have := map[bool]int{}
	eachBook(t, 1000, func(t *testing.T, b api.StrakeBook, o *oracle, r *rand.Rand) {
		b.Marks = nil
		for range 5 {
			g := randomGirths(r, b)
			want := true
			var p [][]int
			for frame, girth := range g {
				list, _ := strake.Equal(girth, b.Strakes)
				p = append(p, list)
				if girth < b.Least*b.Strakes || girth > b.Most*b.Strakes || frame > 0 && distance(girth, g[frame-1]) > b.Taper*b.Strakes {
					want = false
				}
			}
			have[want]++
			if n, s := strake.Plans(b, g); n > 0 != want || s != api.Clear {
				t.Error("Plans", g, n, s)
			}
			if is, s := strake.IsPlan(b, g, p); is != want && slices.Max(slices.Concat(p...)) <= api.MaxStrakeWidth || want && s != api.Clear {
				t.Error("IsPlan", g, p, is, s)
			}
		}
	})
	if have[true] < 1000 || have[false] < 1000 {
		t.Error("the girths are too much alike", have)
	}
}

// No plan is straighter than the straightest one, none is before the first one, and both are plans.
func TestP5_8Best(t *testing.T) {
	tried := 0
	eachBook(t, 300, func(t *testing.T, b api.StrakeBook, o *oracle, r *rand.Rand) {
		for range 4 {
			g := randomGirths(r, b)
			first, found, _ := strake.Plan(b, g)
			if !found {
				continue
			}
			tried++
			best, change, _, _ := strake.Straightest(b, g)
			if !isPlan(b, g, first) || !isPlan(b, g, best) || changeOf(best) != change {
				t.Error(g, first, best, change)
			}
			for _, p := range plansOf(b, g) {
				if comparePlans(p, first) < 0 || changeOf(p) < change || changeOf(p) == change && comparePlans(p, best) < 0 {
					t.Error(g, p, first, best, change)
				}
			}
		}
	})
	if tried < 200 {
		t.Error("too few girths have plans", tried)
	}
}

// turnFrames lists frames from the last one, and turnStrakes strakes.
func turnFrames(b api.StrakeBook) api.StrakeBook {
	b = clone(b)
	slices.Reverse(b.Girths)
	for i := range b.Marks {
		b.Marks[i].Frame = len(b.Girths) - 1 - b.Marks[i].Frame
	}
	return b
}

func turnStrakes(b api.StrakeBook) api.StrakeBook {
	b = clone(b)
	for i := range b.Marks {
		b.Marks[i].Strake = b.Strakes - 1 - b.Marks[i].Strake
	}
	return b
}

func turned[T any](list []T) []T {
	list = slices.Clone(list)
	slices.Reverse(list)
	return list
}

func turnedRows(p [][]int) (rows [][]int) {
	for _, row := range p {
		rows = append(rows, turned(row))
	}
	return rows
}

func TestP5_10Turned(t *testing.T) {
	tried := 0
	eachBook(t, 200, func(t *testing.T, b api.StrakeBook, o *oracle, r *rand.Rand) {
		back, over := turnFrames(b), turnStrakes(b)
		for range 3 {
			g := randomGirths(r, b)
			plans := plansOf(b, g)
			for _, p := range plans[:min(len(plans), 20)] {
				tried++
				if is, s := strake.IsPlan(back, turned(g), turned(p)); !is || s != api.Clear {
					t.Error("frames", g, p, is, s)
				}
				if is, s := strake.IsPlan(over, g, turnedRows(p)); !is || s != api.Clear {
					t.Error("strakes", g, p, is, s)
				}
			}
			_, change, _, _ := strake.Straightest(b, g)
			for _, x := range []struct {
				b api.StrakeBook
				g []int
			}{{back, turned(g)}, {over, g}} {
				if n, s := strake.Plans(x.b, x.g); n != len(plans) || s != api.Clear {
					t.Error("Plans", g, n, s, len(plans))
				}
				if _, n, _, s := strake.Straightest(x.b, x.g); n != change || s != api.Clear {
					t.Error("Straightest", g, n, s, change)
				}
				if is, s := strake.IsBoat(x.b, x.g); is != o.has(g) || s != api.Clear {
					t.Error("IsBoat", g, is, s)
				}
			}
		}
		for frame := range b.Girths {
			for n := range b.Strakes {
				x, s := strake.Widths(b, frame, n)
				if y, l := strake.Widths(back, len(b.Girths)-1-frame, n); x != y || s != l {
					t.Error("Widths", frame, n, x, y, s, l)
				}
				if y, l := strake.Widths(over, frame, b.Strakes-1-n); x != y || s != l {
					t.Error("Widths", frame, n, x, y, s, l)
				}
			}
		}
	})
	if tried < 1000 {
		t.Error("too few plans", tried)
	}
}

// A plan of a boat that is cut between two frames is a plan of both parts.
func TestP5_11Cut(t *testing.T) {
	tried := 0
	eachBook(t, 500, func(t *testing.T, b api.StrakeBook, o *oracle, r *rand.Rand) {
		if len(b.Girths) < 4 {
			return
		}
		const at = 2
		fore, aft := b, b
		fore.Girths, aft.Girths = b.Girths[:at], b.Girths[at:]
		fore.Marks, aft.Marks = nil, nil
		for _, m := range b.Marks {
			if m.Frame < at {
				fore.Marks = append(fore.Marks, m)
			} else {
				aft.Marks = append(aft.Marks, mark(m.Frame-at, m.Strake, m.Width))
			}
		}
		for i, g := range o.boats {
			for _, p := range o.plans[i][:min(len(o.plans[i]), 5)] {
				tried++
				if is, s := strake.IsPlan(fore, g[:at], p[:at]); !is || s != api.Clear {
					t.Error(fore, g, p, is, s)
				}
				if is, s := strake.IsPlan(aft, g[at:], p[at:]); !is || s != api.Clear {
					t.Error(aft, g, p, is, s)
				}
			}
			one, _ := strake.IsBoat(fore, g[:at])
			if two, _ := strake.IsBoat(aft, g[at:]); !one || !two {
				t.Error("IsBoat", g, one, two)
			}
		}
	})
	if tried < 500 {
		t.Error("too few plans", tried)
	}
}

// Strakes that are joined two by two are a plan with twice the limits.
func TestP5_11Joined(t *testing.T) {
	tried := 0
	eachBook(t, 1500, func(t *testing.T, b api.StrakeBook, o *oracle, r *rand.Rand) {
		wide := b
		wide.Strakes, wide.Least, wide.Most, wide.Taper, wide.Marks = b.Strakes/2, 2*b.Least, 2*b.Most, 2*b.Taper, nil
		if b.Strakes%2 != 0 || strake.CheckBook(wide) != api.Clear {
			return
		}
		for i, g := range o.boats {
			for _, p := range o.plans[i][:min(len(o.plans[i]), 5)] {
				tried++
				var joined [][]int
				for _, row := range p {
					var list []int
					for k := 0; k < len(row); k += 2 {
						list = append(list, row[k]+row[k+1])
					}
					joined = append(joined, list)
				}
				if is, s := strake.IsPlan(wide, g, joined); !is || s != api.Clear {
					t.Error(wide, g, joined, is, s)
				}
			}
			if is, s := strake.IsBoat(wide, g); !is || s != api.Clear {
				t.Error("IsBoat", wide, g, is, s)
			}
		}
	})
	if tried < 500 {
		t.Error("too few plans", tried)
	}
}
