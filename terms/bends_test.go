package terms_test

import (
	"slices"
	"testing"

	"ribband/terms"
)

func TestBends(t *testing.T) {
	for i, x := range []struct{ line, steps, bends []int }{
		{nil, nil, nil},
		{[]int{7}, nil, nil},
		{[]int{7, 9}, []int{2}, nil},
		{[]int{10, 13, 13, 14}, []int{3, 0, 1}, []int{-3, 1}},
		{[]int{5, 3, 3, 3, 2}, []int{-2, 0, 0, -1}, []int{2, 0, -1}},
	} {
		if l := terms.Steps(x.line); !slices.Equal(l, x.steps) {
			t.Error(i, l)
		}
		if l := terms.Bends(x.line); !slices.Equal(l, x.bends) {
			t.Error(i, l)
		}
	}
}

func TestAllWithin(t *testing.T) {
	for i, x := range []struct {
		list []int
		most int
		want bool
	}{
		{nil, 0, true},
		{[]int{0, 0}, 0, true},
		{[]int{0, 1}, 0, false},
		{[]int{-1, 0}, 0, false},
		{[]int{-3, 3}, 3, true},
		{[]int{-3, 4}, 3, false},
		{[]int{-4, 3}, 3, false},
	} {
		if are := terms.AllWithin(x.list, x.most); are != x.want {
			t.Error(i, are)
		}
	}
}
