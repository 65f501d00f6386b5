package terms_test

import (
	"cmp"
	"slices"
	"testing"

	"ribband/api"
	"ribband/terms"
)

// Boats are pairs of numbers here.
type pair [2]int

func list(p pair) []int { return p[:] }

func first(p pair) int { return p[0] }

func second(p pair) int { return p[1] }

var boats = []pair{{3, 1}, {2, 5}, {2, 4}, {2, 4}}

func TestIsAny(t *testing.T) {
	if !terms.IsAny(slices.Values(boats)) || !terms.IsAny(slices.Values(boats[:1])) || terms.IsAny(slices.Values(boats[:0])) {
		t.Error("there is one if there is one")
	}
}

func TestFirst(t *testing.T) {
	if p, found := terms.First(slices.Values(boats)); p != boats[0] || !found {
		t.Error(p, found)
	}
	if p, found := terms.First(slices.Values(boats[:0])); p != (pair{}) || found {
		t.Error(p, found)
	}
}

func TestSpanOf(t *testing.T) {
	for i, x := range []struct {
		boats    []pair
		question func(pair) int
		want     api.Span
		s        api.Snag
	}{
		{boats, first, to(2, 3), api.Clear},
		{boats, second, to(1, 5), api.Clear},
		{boats[1:2], second, to(5, 5), api.Clear},
		{boats, func(p pair) int { return -p[1] }, to(-5, -1), api.Clear},
		{boats[:0], first, to(0, 0), api.Foul},
	} {
		if y, s := terms.SpanOf(slices.Values(x.boats), x.question); y != x.want || s != x.s {
			t.Error(i, y, s)
		}
	}
}

func TestIsAmong(t *testing.T) {
	for p, want := range map[pair]bool{{3, 1}: true, {2, 4}: true, {3, 5}: false, {1, 3}: false} {
		if is := terms.IsAmong(slices.Values(boats), p); is != want {
			t.Error(p, is)
		}
	}
}

func TestWhich(t *testing.T) {
	odd := func(p pair) bool { return p[1]%2 != 0 }
	if l := terms.Which(boats, odd); !slices.Equal(l, []pair{{3, 1}, {2, 5}}) {
		t.Error(l)
	}
	if l := terms.Which(boats[2:], odd); len(l) > 0 {
		t.Error(l)
	}
	if l := terms.Which(boats[:0], odd); len(l) > 0 {
		t.Error(l)
	}
	var numbers []int
	for n := range 1000 {
		numbers = append(numbers, n)
	}
	if l := terms.Which(numbers, func(n int) bool { return n != 500 }); !slices.Equal(l, slices.Delete(numbers, 500, 501)) {
		t.Error(l)
	}
}

func TestSure(t *testing.T) {
	above := func(n int) func(pair) bool { return func(p pair) bool { return p[0] > n } }
	for n, want := range map[int]api.Sure{1: api.Yes, 2: api.Open, 3: api.No} {
		if sure, s := terms.Sure(slices.Values(boats), above(n)); sure != want || s != api.Clear {
			t.Error(n, sure, s)
		}
		if sure, s := terms.Sure(slices.Values(boats[:0]), above(n)); sure != api.Open || s != api.Foul {
			t.Error(n, sure, s)
		}
	}
}

func TestBest(t *testing.T) {
	for i, x := range []struct {
		decides []func(a, b pair) int
		want    pair
	}{
		{nil, pair{3, 1}},
		{[]func(a, b pair) int{terms.Least(first)}, pair{2, 5}}, // the first one of several
		{[]func(a, b pair) int{terms.Least(second)}, pair{3, 1}},
		{[]func(a, b pair) int{terms.Least(first), terms.Least(second)}, pair{2, 4}},
		{[]func(a, b pair) int{func(a, b pair) int { return cmp.Compare(b[1], a[1]) }}, pair{2, 5}},
	} {
		if best, found := terms.Best(slices.Values(boats), x.decides...); best != x.want || !found {
			t.Error(i, best, found)
		}
		if best, found := terms.Best(slices.Values(boats[:0]), x.decides...); best != (pair{}) || found {
			t.Error(i, best, found)
		}
	}
}

func TestTally(t *testing.T) {
	sum := terms.TallyOf(slices.Values(boats), list)
	if n := sum.Boats(); n != 4 {
		t.Error(n)
	}
	for p, want := range map[[2]int]int{{0, 2}: 3, {0, 3}: 1, {0, 1}: 0, {1, 1}: 1, {1, 4}: 2, {1, 5}: 1, {1, 2}: 0, {2, 2}: 0} {
		if n := sum.With(p[0], p[1]); n != want {
			t.Error(p, n)
		}
	}
	for i, want := range [][]int{{2, 3}, {1, 4, 5}, nil} {
		if l, s := sum.Numbers(i); !slices.Equal(l, want) || s != api.Clear {
			t.Error(i, l, s)
		}
	}
	none := terms.TallyOf(slices.Values(boats[:0]), list)
	if n := none.Boats(); n != 0 {
		t.Error(n)
	}
	if l, s := none.Numbers(0); len(l) > 0 || s != api.Foul {
		t.Error(l, s)
	}
}

func TestAsk(t *testing.T) {
	for i, x := range []struct {
		boats    []pair
		many     int
		at, left int
		s        api.Snag
	}{
		{boats, 2, 1, 2, api.Clear},
		{boats, 1, 0, 3, api.Clear},
		{boats[:2], 2, 0, 1, api.Clear},  // both would do
		{boats[2:], 2, -1, 2, api.Clear}, // nothing is open
		{[]pair{{1, 1}, {1, 2}, {2, 1}, {2, 1}}, 2, 0, 2, api.Clear},
		{[]pair{{5, 1}, {5, 2}}, 2, 1, 1, api.Clear},
		{boats[:1], 2, -1, 1, api.Clear},
		{boats[:0], 2, 0, 0, api.Foul},
	} {
		if at, left, s := terms.TallyOf(slices.Values(x.boats), list).Ask(x.many); at != x.at || left != x.left || s != x.s {
			t.Error(i, at, left, s)
		}
	}
}
