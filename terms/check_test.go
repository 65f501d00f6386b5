package terms_test

import (
	"testing"

	"ribband/api"
	"ribband/terms"
)

type number int

func (n number) isNegative() bool { return n < 0 }
func (n number) isOdd() bool      { return n%2 != 0 }

// The first check that finds something wrong decides.
func TestSnagOf(t *testing.T) {
	checks := []terms.Check[number]{
		{Wrong: number.isNegative, Snag: api.Turned},
		{Wrong: number.isOdd, Snag: api.Form},
	}
	for n, want := range map[number]api.Snag{2: api.Clear, 3: api.Form, -2: api.Turned, -3: api.Turned} {
		if s := terms.SnagOf(n, checks); s != want {
			t.Error(n, s)
		}
	}
	if s := terms.SnagOf(number(-3), nil); s != api.Clear {
		t.Error(s)
	}
}

func TestIsIndex(t *testing.T) {
	for i, want := range map[int]bool{-most - 1: false, -1: false, 0: true, 2: true, 3: false, most: false} {
		if is := terms.IsIndex(i, 3); is != want {
			t.Error(i, is)
		}
	}
	if terms.IsIndex(0, 0) {
		t.Error("nothing has an index")
	}
}

func TestIsOut(t *testing.T) {
	for n, want := range map[int]bool{-most - 1: true, -1: true, 0: false, 9: false, 10: true, most: true} {
		if is := terms.IsOut(n, 9); is != want {
			t.Error(n, is)
		}
	}
}

func TestNumbersSnag(t *testing.T) {
	for i, x := range []struct {
		list []int
		many int
		want api.Snag
	}{
		{nil, 0, api.Clear},
		{[]int{}, 0, api.Clear},
		{nil, 1, api.Many},
		{[]int{1, 9}, 2, api.Clear},
		{[]int{1, 9}, 3, api.Many},
		{[]int{1, 10}, 1, api.Many}, // how many there are comes first
		{[]int{1, 10}, 2, api.Range},
		{[]int{0, 9}, 2, api.Range},
		{[]int{most, -most - 1}, 2, api.Range},
	} {
		if s := terms.NumbersSnag(x.list, x.many, to(1, 9)); s != x.want {
			t.Error(i, s)
		}
	}
}

func TestIndexesSnag(t *testing.T) {
	for i, x := range []struct {
		list []int
		want api.Snag
	}{
		{nil, api.Clear},
		{[]int{0, 1, 2}, api.Clear},
		{[]int{1}, api.Clear},
		{[]int{3}, api.Absent},
		{[]int{-1}, api.Absent},
		{[]int{1, 1}, api.Turned},
		{[]int{1, 0, 3}, api.Turned}, // the first one that has a snag decides
		{[]int{1, 3, 0}, api.Absent},
		{[]int{1, -1}, api.Absent}, // and of its snags the first one
		{[]int{0, 1, 2, 2}, api.Turned},
		{[]int{most, -most - 1}, api.Absent},
	} {
		if s := terms.IndexesSnag(x.list, 3); s != x.want {
			t.Error(i, s)
		}
	}
	if s := terms.IndexesSnag([]int{0}, 0); s != api.Absent {
		t.Error(s)
	}
}

func TestEachSnag(t *testing.T) {
	snags := []api.Snag{api.Clear, api.Clear, api.Form, api.Turned}
	snag := func(i int) api.Snag { return snags[i] }
	for many, want := range []api.Snag{api.Clear, api.Clear, api.Clear, api.Form, api.Form} {
		if s := terms.EachSnag(many, snag); s != want {
			t.Error(many, s)
		}
	}
}

func TestAscendingSnag(t *testing.T) {
	for i, x := range []struct {
		list []int
		want api.Snag
	}{
		{nil, api.Clear},
		{[]int{1, 2, 5}, api.Clear},
		{[]int{0}, api.Absent},
		{[]int{2, 6}, api.Absent},
		{[]int{2, 2}, api.Turned},
		{[]int{4, 2, 9}, api.Turned},
		{[]int{4, 9, 2}, api.Absent},
		{[]int{-most - 1}, api.Absent},
		{[]int{most}, api.Absent},
	} {
		if s := terms.AscendingSnag(x.list, to(1, 5)); s != x.want {
			t.Error(i, s)
		}
	}
	if s := terms.AscendingSnag([]int{1}, to(1, 0)); s != api.Absent {
		t.Error(s)
	}
}

// Whether there is anything comes first, then the elements, then the sum.
func TestSumSnag(t *testing.T) {
	for i, x := range []struct {
		indexes []int
		sum     api.Span
		want    api.Snag
	}{
		{[]int{0, 2}, to(0, 9), api.Clear},
		{[]int{1}, to(9, 9), api.Clear},
		{nil, to(0, 9), api.Many},
		{[]int{}, to(5, 4), api.Many},
		{[]int{0, 3}, to(5, 4), api.Absent},
		{[]int{2, 0}, to(5, 4), api.Turned},
		{[]int{0, 2}, to(5, 4), api.Range},
		{[]int{0, 2}, to(-1, 4), api.Range},
		{[]int{0, 2}, to(5, 10), api.Range},
	} {
		if s := terms.SumSnag(x.indexes, 3, x.sum, 9); s != x.want {
			t.Error(i, s)
		}
	}
}

func TestIsSum(t *testing.T) {
	for i, x := range []struct {
		indexes []int
		sum     api.Span
		want    bool
	}{
		{[]int{0}, to(4, 4), true},
		{[]int{0, 2}, to(13, 13), true},
		{[]int{0, 2}, to(12, 14), true},
		{[]int{0, 2}, to(4, 12), false},
		{[]int{0, 2}, to(14, 99), false},
		{[]int{0, 1, 2}, to(11, 11), true},
		{nil, to(0, 0), true},
		{nil, to(1, 9), false},
	} {
		if is := terms.IsSum([]int{4, -2, 9}, x.indexes, x.sum); is != x.want {
			t.Error(i, is)
		}
	}
}
