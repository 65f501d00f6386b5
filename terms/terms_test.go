package terms_test

import (
	"slices"
	"testing"

	"ribband/api"
	"ribband/terms"
)

const most = int(^uint(0) >> 1)

func to(a, b int) api.Span { return api.Span{Low: a, High: b} }

func TestIsSpan(t *testing.T) {
	for x, want := range map[api.Span]bool{
		to(3, 3): true, to(3, 7): true, to(7, 7): true, to(4, 6): true,
		to(5, 4): false, to(2, 3): false, to(7, 8): false, to(2, 8): false, to(8, 9): false, to(-most-1, most): false, to(most, -most-1): false,
	} {
		if is := terms.IsSpan(x, 3, 7); is != want {
			t.Error(x, is)
		}
	}
}

func TestHas(t *testing.T) {
	for n, want := range map[int]bool{2: false, 3: true, 4: true, 5: true, 6: false, -3: false} {
		if has := terms.Has(to(3, 5), n); has != want {
			t.Error(n, has)
		}
	}
}

func TestUpTo(t *testing.T) {
	for n, want := range map[int]bool{-1: false, 0: false, 1: true, 5: true, 6: false} {
		if has := terms.Has(terms.UpTo(5), n); has != want {
			t.Error(n, has)
		}
	}
	if terms.Has(terms.UpTo(0), 0) || terms.Has(terms.UpTo(0), 1) {
		t.Error("no number is from 1 to 0")
	}
}

func TestCommon(t *testing.T) {
	for _, x := range []struct {
		a, b, want api.Span
		ok         bool
	}{
		{to(1, 5), to(3, 9), to(3, 5), true},
		{to(3, 9), to(1, 5), to(3, 5), true},
		{to(1, 9), to(4, 4), to(4, 4), true},
		{to(1, 4), to(4, 9), to(4, 4), true},
		{to(1, 3), to(4, 9), api.Span{}, false},
		{to(4, 9), to(-5, -1), api.Span{}, false},
	} {
		if both, ok := terms.Common(x.a, x.b); both != x.want || ok != x.ok {
			t.Error(x, both, ok)
		}
	}
}

func TestJoin(t *testing.T) {
	for i, x := range []struct {
		x      api.Span
		others []api.Span
		want   api.Span
	}{
		{to(3, 5), nil, to(3, 5)},
		{to(3, 5), []api.Span{to(4, 4)}, to(3, 5)},
		{to(3, 5), []api.Span{to(7, 9), to(-2, 1)}, to(-2, 9)},
		{to(3, 5), []api.Span{to(2, 4), to(4, 6)}, to(2, 6)},
	} {
		if y := terms.Join(x.x, x.others...); y != x.want {
			t.Error(i, y)
		}
	}
}

func TestHighestLowest(t *testing.T) {
	for i, x := range []struct {
		list            []int
		highest, lowest int
	}{
		{[]int{4}, 4, 4},
		{[]int{-4}, -4, -4},
		{[]int{4, 2}, 4, 2},
		{[]int{2, 4}, 4, 2},
		{[]int{3, -1, 7, 7, 0}, 7, -1},
		{[]int{-3, -1, -2}, -1, -3},
	} {
		if n := terms.Highest(x.list[0], x.list[1:]...); n != x.highest {
			t.Error(i, n)
		}
		if n := terms.Lowest(x.list[0], x.list[1:]...); n != x.lowest {
			t.Error(i, n)
		}
	}
	if a, b := terms.Highest("keel", "rib"), terms.Lowest("keel", "rib"); a != "rib" || b != "keel" {
		t.Error(a, b)
	}
}

func TestIsName(t *testing.T) {
	for _, name := range []string{"a", "z", "a0", "z9", "keel", "abcdefghij", "a000000000", "b2b"} {
		if !terms.IsName(name) {
			t.Error(name)
		}
	}
	for _, name := range []string{"", "0", "9a", "A", "aB", "a b", "a\n", "a-", "a_", "a+", "a`", "a{", "a/", "a:", "\u00e9", "a\u0661", "a\xff", "a\x00", "abcdefghijk"} {
		if terms.IsName(name) {
			t.Error(name)
		}
	}
}

func TestPick(t *testing.T) {
	list := []string{"a", "b", "c"}
	for i, x := range []struct {
		indexes []int
		want    []string
	}{
		{nil, nil},
		{[]int{1}, []string{"b"}},
		{[]int{0, 2}, []string{"a", "c"}},
		{[]int{0, 1, 2}, list},
	} {
		got := terms.Pick(list, x.indexes)
		if !slices.Equal(got, x.want) {
			t.Error(i, got)
		}
		for k := range got {
			got[k] = "z"
		}
	}
	if !slices.Equal(list, []string{"a", "b", "c"}) {
		t.Error("what is picked shares memory", list)
	}
}

func TestSum(t *testing.T) {
	if terms.Sum() != 0 || terms.Sum(7) != 7 || terms.Sum(7, -2, 0, 5) != 10 {
		t.Error("not what numbers are together")
	}
}

func TestSureOf(t *testing.T) {
	if terms.SureOf(0, 3) != api.No || terms.SureOf(1, 3) != api.Open || terms.SureOf(2, 3) != api.Open || terms.SureOf(3, 3) != api.Yes {
		t.Error("not as sure as it is")
	}
}

func TestLists(t *testing.T) {
	equal := func(got [][]int, want ...[]int) bool { return slices.EqualFunc(got, want, slices.Equal) }
	if got := slices.Collect(terms.Lists(3, 3)); !equal(got, nil, []int{0}, []int{1}, []int{2}, []int{0, 1}, []int{0, 2}, []int{1, 2}, []int{0, 1, 2}) {
		t.Error(got)
	}
	if got := slices.Collect(terms.Lists(3, 1)); !equal(got, nil, []int{0}, []int{1}, []int{2}) {
		t.Error(got)
	}
	if got := slices.Collect(terms.Lists(2, 9)); !equal(got, nil, []int{0}, []int{1}, []int{0, 1}) {
		t.Error(got)
	}
	if got := slices.Collect(terms.Lists(0, 2)); !equal(got, nil) {
		t.Error(got)
	}
	if got := slices.Collect(terms.Lists(4, 0)); !equal(got, nil) {
		t.Error(got)
	}
	many := 0
	for range terms.Lists(5, 5) {
		if many++; many == 7 {
			break
		}
	}
	if many != 7 {
		t.Error(many)
	}
}

// The fewest indexes decide, and then the least list.
func TestClash(t *testing.T) {
	for i, x := range []struct {
		n     int
		foul  [][]int // lists with which, or more, there is no boat
		want  []int
		found bool
	}{
		{0, nil, nil, false},
		{3, nil, nil, false},
		{3, [][]int{nil}, nil, true},
		{0, [][]int{nil}, nil, true},
		{3, [][]int{{0, 1}, {2}}, []int{2}, true},
		{3, [][]int{{1, 2}, {0, 2}}, []int{0, 2}, true},
		{3, [][]int{{0, 1, 2}}, []int{0, 1, 2}, true},
	} {
		isBoat := func(list []int) bool {
			return !slices.ContainsFunc(x.foul, func(foul []int) bool {
				return !slices.ContainsFunc(foul, func(n int) bool { return !slices.Contains(list, n) })
			})
		}
		if list, found := terms.Clash(x.n, isBoat); !slices.Equal(list, x.want) || found != x.found {
			t.Error(i, list, found)
		}
	}
}

func TestChoices(t *testing.T) {
	for i, x := range []struct {
		spans []api.Span
		want  [][]int
	}{
		{nil, [][]int{nil}},
		{[]api.Span{to(3, 3)}, [][]int{{3}}},
		{[]api.Span{to(0, 1), to(-1, 1)}, [][]int{{0, -1}, {0, 0}, {0, 1}, {1, -1}, {1, 0}, {1, 1}}},
		{[]api.Span{to(0, 1), to(2, 1)}, nil},
	} {
		if got := slices.Collect(terms.Choices(x.spans...)); !slices.EqualFunc(got, x.want, slices.Equal) {
			t.Error(i, got)
		}
	}
	var got [][]int
	for list := range terms.Choices(to(1, 2), to(3, 4)) {
		got = append(got, slices.Clone(list))
		list[0], list[1] = 7, 7 // what is yielded is in memory of its own
		if len(got) == 3 {
			break
		}
	}
	if !slices.EqualFunc(got, [][]int{{1, 3}, {1, 4}, {2, 3}}, slices.Equal) {
		t.Error(got)
	}
}
