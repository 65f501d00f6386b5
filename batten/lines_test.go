package batten_test

import (
	"math/rand"
	"slices"
	"testing"

	"ribband/api"
	"ribband/batten"
)

const (
	most  = int(^uint(0) >> 1)
	least = -most - 1
)

func rules(r ...api.BattenRule) []api.BattenRule { return r }

func TestP2_1CheckBook(t *testing.T) {
	good := api.BattenRule{A: 0, B: 3, Rise: to(-959, 959)}
	for i, x := range []struct {
		change func(b *api.BattenBook)
		want   api.Snag
	}{
		{func(b *api.BattenBook) {}, api.Clear},
		{func(b *api.BattenBook) { b.Bend, b.Twist, b.Turns = 0, 0, 0 }, api.Clear},
		{func(b *api.BattenBook) { b.Bend, b.Twist, b.Turns = 99, 99, 5 }, api.Clear},
		{func(b *api.BattenBook) { b.Bend = -1 }, api.Range},
		{func(b *api.BattenBook) { b.Bend = 100 }, api.Range},
		{func(b *api.BattenBook) { b.Bend = least }, api.Range},
		{func(b *api.BattenBook) { b.Twist = -1 }, api.Range},
		{func(b *api.BattenBook) { b.Twist = 100 }, api.Range},
		{func(b *api.BattenBook) { b.Twist = most }, api.Range},
		{func(b *api.BattenBook) { b.Turns = -1 }, api.Range},
		{func(b *api.BattenBook) { b.Turns = 6 }, api.Range},
		{func(b *api.BattenBook) { b.Marks = nil }, api.Many},
		{func(b *api.BattenBook) { b.Marks = b.Marks[:2] }, api.Many},
		{func(b *api.BattenBook) { b.Marks = b.Marks[:3] }, api.Clear},
		{func(b *api.BattenBook) { b.Marks = make([]api.Span, 7) }, api.Clear},
		{func(b *api.BattenBook) { b.Marks = make([]api.Span, 8) }, api.Many},
		{func(b *api.BattenBook) { b.Marks[0] = to(0, 2) }, api.Clear},
		{func(b *api.BattenBook) { b.Marks[0] = to(0, 3) }, api.Range},
		{func(b *api.BattenBook) { b.Marks[3] = to(957, 959) }, api.Clear},
		{func(b *api.BattenBook) { b.Marks[3] = to(959, 959) }, api.Clear},
		{func(b *api.BattenBook) { b.Marks[3] = to(958, 960) }, api.Range},
		{func(b *api.BattenBook) { b.Marks[1] = to(-1, 0) }, api.Range},
		{func(b *api.BattenBook) { b.Marks[1] = to(12, 11) }, api.Range},
		{func(b *api.BattenBook) { b.Marks[2] = to(least, most) }, api.Range},
		{func(b *api.BattenBook) { b.Marks[2] = to(most, least) }, api.Range},
		{func(b *api.BattenBook) { b.Marks[2] = to(0, most) }, api.Range},
		{func(b *api.BattenBook) { b.Rules = rules(good, good, good, good) }, api.Clear},
		{func(b *api.BattenBook) { b.Rules = rules(good, good, good, good, good) }, api.Many},
		{func(b *api.BattenBook) { b.Rules = rules(api.BattenRule{A: 0, B: 4}) }, api.Absent},
		{func(b *api.BattenBook) { b.Rules = rules(api.BattenRule{A: -1, B: 3}) }, api.Absent},
		{func(b *api.BattenBook) { b.Rules = rules(api.BattenRule{A: 4, B: 3}) }, api.Absent},
		{func(b *api.BattenBook) { b.Rules = rules(api.BattenRule{A: 3, B: -1}) }, api.Absent},
		{func(b *api.BattenBook) { b.Rules = rules(api.BattenRule{A: most, B: least}) }, api.Absent},
		{func(b *api.BattenBook) { b.Rules = rules(api.BattenRule{A: 2, B: 2}) }, api.Turned},
		{func(b *api.BattenBook) { b.Rules = rules(api.BattenRule{A: 3, B: 2}) }, api.Turned},
		{func(b *api.BattenBook) { b.Rules = rules(api.BattenRule{A: 2, B: 3}) }, api.Clear},
		{func(b *api.BattenBook) { b.Rules = rules(api.BattenRule{A: 0, B: 3, Rise: to(-960, 0)}) }, api.Range},
		{func(b *api.BattenBook) { b.Rules = rules(api.BattenRule{A: 0, B: 3, Rise: to(0, 960)}) }, api.Range},
		{func(b *api.BattenBook) { b.Rules = rules(api.BattenRule{A: 0, B: 3, Rise: to(1, 0)}) }, api.Range},
		{func(b *api.BattenBook) { b.Rules = rules(api.BattenRule{A: 0, B: 3, Rise: to(least, most)}) }, api.Range},
		// of several the first one (R1)
		{func(b *api.BattenBook) { b.Turns, b.Marks = 6, nil }, api.Range},
		{func(b *api.BattenBook) { b.Marks = make([]api.Span, 8); b.Marks[0] = to(1, 0) }, api.Many},
		{func(b *api.BattenBook) { b.Marks[3] = to(1, 0); b.Rules = make([]api.BattenRule, 5) }, api.Range},
		{func(b *api.BattenBook) { b.Marks = b.Marks[:2]; b.Rules = rules(api.BattenRule{A: 9}) }, api.Many},
		{func(b *api.BattenBook) { b.Rules = make([]api.BattenRule, 5); b.Rules[0].A = 9 }, api.Many},
		{func(b *api.BattenBook) { b.Rules = rules(api.BattenRule{A: 9, B: 2, Rise: to(1, 0)}) }, api.Absent},
		{func(b *api.BattenBook) { b.Rules = rules(api.BattenRule{A: 3, B: 2, Rise: to(1, 0)}) }, api.Turned},
		// rule by rule
		{func(b *api.BattenBook) {
			b.Rules = rules(good, api.BattenRule{A: 0, B: 1, Rise: to(1, 0)}, api.BattenRule{A: 9})
		}, api.Range},
		{func(b *api.BattenBook) { b.Rules = rules(good, api.BattenRule{A: 1, B: 1}, api.BattenRule{A: 9}) }, api.Turned},
		{func(b *api.BattenBook) { b.Rules = rules(good, api.BattenRule{A: 9}, api.BattenRule{A: 1, B: 1}) }, api.Absent},
	} {
		b := parse(t, textB)
		x.change(&b)
		if s := batten.CheckBook(b); s != x.want {
			t.Error(i, s)
		}
	}
}

func TestP2_1Lines(t *testing.T) {
	five := "batten 9 9 1\nmark 1..3\nmark 1..3\nmark 1..3\nmark 1..3\nmark 1..3\n"
	for i, x := range []struct {
		text          string
		line          []int
		bends, twists []int
		turns         int
		fair, is      bool
	}{
		{textB, []int{10, 13, 13, 14}, []int{-3, 1}, []int{4}, 1, false, false},
		{textB, []int{10, 12, 14, 13}, []int{0, -3}, []int{-3}, 0, true, true},
		{textB, []int{10, 12, 15, 14}, []int{1, -4}, []int{-5}, 1, false, false},
		{textB, []int{0, 0, 0, 0}, []int{0, 0}, []int{0}, 0, true, false},
		{textB, []int{0, 959, 0, 959}, []int{-1918, 1918}, []int{3836}, 1, false, false},
		{textB, []int{12, 10, 11, 15}, []int{3, 3}, []int{0}, 0, true, false},    // the bend itself is allowed
		{textB, []int{12, 10, 12, 15}, []int{4, 1}, []int{-3}, 0, false, false},  // but no more, either way
		{textB, []int{10, 12, 10, 7}, []int{-4, -1}, []int{3}, 0, false, false},  // nor when it is round
		{textB, []int{10, 11, 11, 14}, []int{-1, 3}, []int{4}, 1, false, false},  // it twists too much
		{textB, []int{10, 11, 11, 13}, []int{-1, 2}, []int{3}, 1, true, false},   // and no more than it can
		{textB, []int{10, 11, 14, 14}, []int{2, -3}, []int{-5}, 1, false, false}, // either way
		{textC, []int{14, 13, 11}, []int{-1}, nil, 0, true, true},
		{textC, []int{14, 13, 12}, []int{0}, nil, 0, true, true},
		{textC, []int{14, 13, 13}, []int{1}, nil, 0, true, false},
		{five, []int{3, 1, 1, 1, 3}, []int{2, 0, 2}, []int{-2, 2}, 0, true, true}, // bends that are 0 do not count
		{five, []int{1, 2, 2, 2, 3}, []int{-1, 0, 1}, []int{1, 1}, 1, true, true},
		{five, []int{1, 2, 1, 2, 1}, []int{-2, 2, -2}, []int{4, -4}, 2, false, false},
		{five, []int{2, 1, 2, 1, 1}, []int{2, -2, 1}, []int{-4, 3}, 2, false, false},
		{textB + "rule 1 3 2\n", []int{10, 12, 14, 13}, []int{0, -3}, []int{-3}, 0, true, false},
		{textB + "rule 1 3 1\n", []int{10, 12, 14, 13}, []int{0, -3}, []int{-3}, 0, true, true},
		{textB + "rule 1 3 -1..1\nrule 2 3 -2..-1\n", []int{10, 12, 14, 13}, []int{0, -3}, []int{-3}, 0, true, true},
		{textB + "rule 1 3 -1..1\nrule 2 3 1\n", []int{10, 12, 14, 13}, []int{0, -3}, []int{-3}, 0, true, false},
	} {
		b := parse(t, x.text)
		if l, s := batten.Bends(b, x.line); !slices.Equal(l, x.bends) || s != api.Clear {
			t.Error(i, "Bends", l, s)
		}
		if l, s := batten.Twists(b, x.line); !slices.Equal(l, x.twists) || s != api.Clear {
			t.Error(i, "Twists", l, s)
		}
		if n, s := batten.Turns(b, x.line); n != x.turns || s != api.Clear {
			t.Error(i, "Turns", n, s)
		}
		if is, s := batten.Fair(b, x.line); is != x.fair || s != api.Clear {
			t.Error(i, "Fair", is, s)
		}
		if is, s := batten.IsBoat(b, x.line); is != x.is || s != api.Clear {
			t.Error(i, "IsBoat", is, s)
		}
	}
}

func TestP2_1LineSnags(t *testing.T) {
	for i, x := range []struct {
		line []int
		want api.Snag
	}{
		{nil, api.Many},
		{[]int{}, api.Many},
		{[]int{10, 12, 13}, api.Many},
		{[]int{10, 12, 13, 14, 14}, api.Many},
		{[]int{-1, 12, 13}, api.Many},
		{make([]int, 1<<20), api.Many},
		{[]int{-1, 12, 13, 14}, api.Range},
		{[]int{10, 12, 13, 960}, api.Range},
		{[]int{10, least, 13, 14}, api.Range},
		{[]int{10, 12, most, 14}, api.Range},
		{[]int{0, 959, 959, 0}, api.Clear},
	} {
		b := parse(t, textB)
		for k, results := range lineCalls(b, x.line) {
			if s := results[len(results)-1]; s != x.want {
				t.Error(i, k, s)
			}
		}
		b.Twist = 100
		for k, results := range lineCalls(b, x.line) {
			if s := results[len(results)-1]; s != api.Range {
				t.Error(i, k, s)
			}
		}
	}
}

func TestP2_1Everything(t *testing.T) {
	seen := map[bool]int{}
	eachBook(t, 400, func(t *testing.T, b api.BattenBook, o *oracle, r *rand.Rand) {
		if s := batten.CheckBook(b); s != api.Clear {
			t.Error(s)
		}
		lines := slices.Clone(o.fair)
		for range 20 {
			lines = append(lines, randomLine(r, b))
		}
		for _, l := range lines {
			if got, s := batten.Bends(b, l); !slices.Equal(got, bends(l)) || s != api.Clear {
				t.Error("Bends", l, got, s)
			}
			if got, s := batten.Twists(b, l); !slices.Equal(got, twists(l)) || s != api.Clear {
				t.Error("Twists", l, got, s)
			}
			if n, s := batten.Turns(b, l); n != turns(l) || s != api.Clear {
				t.Error("Turns", l, n, s)
			}
			seen[fair(b, l)]++
			if is, s := batten.Fair(b, l); is != fair(b, l) || s != api.Clear {
				t.Error("Fair", l, is, s)
			}
			if is, s := batten.IsBoat(b, l); is != o.has(l) || s != api.Clear {
				t.Error("IsBoat", l, is, s)
			}
		}
	})
	if seen[true] < 500 || seen[false] < 500 {
		t.Error("the lines are too much alike", seen)
	}
}

// A line is turned round, or lifted.
func TestP2_7TurnedRound(t *testing.T) {
	eachBook(t, 200, func(t *testing.T, b api.BattenBook, o *oracle, r *rand.Rand) {
		round := api.BattenBook{Bend: b.Bend, Twist: b.Twist, Turns: b.Turns, Marks: reversed(b.Marks)}
		last := len(b.Marks) - 1
		for _, x := range b.Rules {
			round.Rules = append(round.Rules, api.BattenRule{A: last - x.B, B: last - x.A, Rise: to(-x.Rise.High, -x.Rise.Low)})
		}
		n, _ := batten.Boats(b)
		if m, s := batten.Boats(round); m != n || s != api.Clear {
			t.Error("turned round", n, m, s)
		}
		lifted := clone(b)
		for i := range lifted.Marks {
			lifted.Marks[i].Low += 7
			lifted.Marks[i].High += 7
		}
		if batten.CheckBook(lifted) == api.Clear {
			if m, s := batten.Boats(lifted); m != n || s != api.Clear {
				t.Error("lifted", n, m, s)
			}
		}
		for range 20 {
			l := randomLine(r, b)
			turned := reversed(l)
			up := slices.Clone(l)
			for i := range up {
				up[i] += api.MaxBattenHeight - slices.Max(l)
			}
			bends, _ := batten.Bends(b, l)
			twists, _ := batten.Twists(b, l)
			turns, _ := batten.Turns(b, l)
			fair, _ := batten.Fair(b, l)
			other := reversed(twists)
			for i := range other {
				other[i] = -other[i]
			}
			if got, _ := batten.Bends(b, turned); !slices.Equal(got, reversed(bends)) {
				t.Error("Bends", l, got)
			}
			if got, _ := batten.Twists(b, turned); !slices.Equal(got, other) {
				t.Error("Twists", l, got)
			}
			for _, x := range [][]int{turned, up} {
				if got, s := batten.Turns(b, x); got != turns || s != api.Clear {
					t.Error("Turns", x, got, s)
				}
				if got, s := batten.Fair(b, x); got != fair || s != api.Clear {
					t.Error("Fair", x, got, s)
				}
			}
			if got, s := batten.Bends(b, up); !slices.Equal(got, bends) || s != api.Clear {
				t.Error("Bends", up, got, s)
			}
		}
	})
}

func reversed[T any](list []T) []T {
	list = slices.Clone(list)
	slices.Reverse(list)
	return list
}

func clone(b api.BattenBook) api.BattenBook {
	b.Marks = slices.Clone(b.Marks)
	b.Rules = slices.Clone(b.Rules)
	return b
}
