package batten_test

import (
	"math/rand"
	"slices"
	"testing"

	"ribband/api"
	"ribband/batten"
)

func TestP2_2Examples(t *testing.T) {
	b := parse(t, textB)
	if n, s := batten.Boats(b); n != 7 || s != api.Clear {
		t.Error(n, s)
	}
	if l, s := batten.Heights(b, 1); !slices.Equal(l, []int{12, 13}) || s != api.Clear {
		t.Error(l, s)
	}
	if v, s := batten.Hollow(b, 2); v != api.No || s != api.Clear {
		t.Error(v, s)
	}
	if l, n, s := batten.Straightest(b); !slices.Equal(l, []int{10, 12, 13, 14}) || n != 1 || s != api.Clear {
		t.Error(l, n, s)
	}
	if l, n, s := batten.Nearest(b, []int{10, 13, 13, 14}); !slices.Equal(l, []int{10, 12, 13, 14}) || n != 1 || s != api.Clear {
		t.Error(l, n, s)
	}
	if l, s := batten.Pulled(b, []int{10, 13, 13, 14}); !slices.Equal(l, []int{1}) || s != api.Clear {
		t.Error(l, s)
	}
	if l, s := batten.Must(b, []int{10, 13, 13, 14}); len(l) > 0 || s != api.Clear {
		t.Error(l, s)
	}
	if l, s := batten.Must(b, []int{10, 11, 13, 15}); !slices.Equal(l, []int{1, 3}) || s != api.Clear {
		t.Error(l, s)
	}
}

// Of several the least list, or the one whose greatest distance is least.
func TestP2_2Several(t *testing.T) {
	b := parse(t, textOpen) // 0 1 1; 0 1 2; 1 1 0; 1 1 1; 1 1 2; 2 1 0; 2 1 1
	if n, s := batten.Boats(b); n != 7 || s != api.Clear {
		t.Error(n, s)
	}
	if v, s := batten.Hollow(b, 1); v != api.Open || s != api.Clear {
		t.Error(v, s)
	}
	if l, n, s := batten.Straightest(b); !slices.Equal(l, []int{0, 1, 2}) || n != 0 || s != api.Clear {
		t.Error(l, n, s)
	}
	for i, x := range []struct {
		line, near   []int
		moved        int
		pulled, must []int
	}{
		{[]int{0, 1, 0}, []int{0, 1, 1}, 1, []int{0}, nil},
		{[]int{2, 1, 2}, []int{1, 1, 2}, 1, []int{0}, nil},
		{[]int{2, 2, 2}, []int{1, 1, 2}, 2, []int{0, 1}, []int{1}},
		{[]int{5, 1, 5}, []int{1, 1, 2}, 7, []int{0, 2}, []int{0, 2}},
		{[]int{1, 959, 1}, []int{1, 1, 1}, 958, []int{1}, []int{1}},
	} {
		if l, n, s := batten.Nearest(b, x.line); !slices.Equal(l, x.near) || n != x.moved || s != api.Clear {
			t.Error(i, l, n, s)
		}
		if l, s := batten.Pulled(b, x.line); !slices.Equal(l, x.pulled) || s != api.Clear {
			t.Error(i, l, s)
		}
		if l, s := batten.Must(b, x.line); !slices.Equal(l, x.must) || s != api.Clear {
			t.Error(i, l, s)
		}
	}
}

// The greatest distance decides before the list does.
func TestP2_2Farthest(t *testing.T) {
	b := api.BattenBook{Bend: 99, Twist: 99, Turns: 5, Marks: []api.Span{to(0, 1), to(4, 4), to(4, 5), to(4, 4)}}
	b.Rules = rules(api.BattenRule{A: 0, B: 2, Rise: to(4, 4)}) // 0 4 4 4 and 1 4 5 4
	if n, s := batten.Boats(b); n != 2 || s != api.Clear {
		t.Fatal(n, s)
	}
	for i, x := range []struct {
		line, near []int
		moved      int
	}{
		{[]int{2, 4, 4, 4}, []int{1, 4, 5, 4}, 2},
		{[]int{0, 4, 6, 4}, []int{1, 4, 5, 4}, 2},
		{[]int{1, 4, 4, 4}, []int{0, 4, 4, 4}, 1},
		{[]int{0, 4, 4, 0}, []int{0, 4, 4, 4}, 4},
	} {
		if l, n, s := batten.Nearest(b, x.line); !slices.Equal(l, x.near) || n != x.moved || s != api.Clear {
			t.Error(i, l, n, s)
		}
	}
}

func TestP2_2Everything(t *testing.T) {
	snags, sures := map[api.Snag]int{}, map[api.Sure]int{}
	eachBook(t, 500, func(t *testing.T, b api.BattenBook, o *oracle, r *rand.Rand) {
		want := o.snag()
		snags[want]++
		if n, s := batten.Boats(b); n != len(o.boats) || s != api.Clear {
			t.Error("Boats", n, s, len(o.boats))
		}
		for station := range b.Marks {
			if l, s := batten.Heights(b, station); !slices.Equal(l, o.heights(station)) || s != want {
				t.Error("Heights", station, l, s)
			}
			sure, snag := api.Open, api.Absent
			if station > 0 && station < len(b.Marks)-1 {
				sure, snag = o.hollow(station), want
				sures[sure]++
			}
			if v, s := batten.Hollow(b, station); v != sure || s != snag {
				t.Error("Hollow", station, v, s, sure)
			}
		}
		line := o.straightest()
		n := strain(line)
		if l, m, s := batten.Straightest(b); !slices.Equal(l, line) || m != n || s != want {
			t.Error("Straightest", l, m, s, line, n)
		}
		for range 12 {
			l := randomLine(r, b)
			near, moved := o.nearest(l), 0
			if near != nil {
				moved, _, _ = far(l, near)
			}
			if x, n, s := batten.Nearest(b, l); !slices.Equal(x, near) || n != moved || s != want {
				t.Error("Nearest", l, x, n, s, near, moved)
			}
			if x, s := batten.Pulled(b, l); !slices.Equal(x, o.pulled(l)) || s != want {
				t.Error("Pulled", l, x, s)
			}
			if x, s := batten.Must(b, l); !slices.Equal(x, o.must(l)) || s != want {
				t.Error("Must", l, x, s)
			}
		}
	})
	if snags[api.Clear] < 100 || snags[api.Foul] < 100 || sures[api.Yes] < 50 || sures[api.No] < 50 || sures[api.Open] < 50 {
		t.Error("the books are too much alike", snags, sures)
	}
}

// A book of the greatest size: each of 2187 lines is a boat.
func TestGreatestBook(t *testing.T) {
	b := api.BattenBook{Bend: 99, Twist: 99, Turns: 5}
	for range api.MaxBattenStations {
		b.Marks = append(b.Marks, to(957, 959))
	}
	if n, s := batten.Boats(b); n != 2187 || s != api.Clear {
		t.Error(n, s)
	}
	if l, n, s := batten.Straightest(b); !slices.Equal(l, []int{957, 957, 957, 957, 957, 957, 957}) || n != 0 || s != api.Clear {
		t.Error(l, n, s)
	}
	if l, n, s := batten.Nearest(b, make([]int, 7)); !slices.Equal(l, []int{957, 957, 957, 957, 957, 957, 957}) || n != 7*957 || s != api.Clear {
		t.Error(l, n, s)
	}
	if l, s := batten.Pulled(b, []int{957, 0, 958, 959, 0, 959, 957}); !slices.Equal(l, []int{1, 4}) || s != api.Clear {
		t.Error(l, s)
	}
	if at, left, s := batten.Ask(b); at != 0 || left != 729 || s != api.Clear {
		t.Error(at, left, s)
	}
	b.Turns = 3 // zigzags turn four times
	if n, s := batten.Boats(b); n != len(newOracle(b).boats) || n >= 2187 || s != api.Clear {
		t.Error(n, s)
	}
}

func TestP2_5WhateverTheLineIs(t *testing.T) {
	eachBook(t, 100, func(t *testing.T, b api.BattenBook, o *oracle, r *rand.Rand) {
		for _, l := range o.boats[:min(len(o.boats), 20)] {
			tellsRight(t, b, l)
		}
		// rules that are right about a fair line leave it a boat
		for _, l := range o.fair[:min(len(o.fair), 10)] {
			x := clone(b)
			x.Rules = nil
			for range r.Intn(api.MaxBattenRules + 1) {
				a := r.Intn(len(l) - 1)
				c := a + 1 + r.Intn(len(l)-a-1)
				rise := l[c] - l[a]
				x.Rules = append(x.Rules, api.BattenRule{A: a, B: c, Rise: to(rise-r.Intn(2), rise+r.Intn(2))})
			}
			tellsRight(t, x, l)
		}
	})
}

func TestP2_6NoOthers(t *testing.T) {
	eachBook(t, 100, func(t *testing.T, b api.BattenBook, o *oracle, r *rand.Rand) {
		if len(o.boats) == 0 {
			return
		}
		for station, m := range b.Marks {
			l, _ := batten.Heights(b, station)
			for h := m.Low; h <= m.High; h++ {
				now, s := batten.Measure(b, station, one(h))
				if slices.Contains(l, h) != (s == api.Clear) {
					t.Error("Heights", station, h, l, s)
				}
				if n, _ := batten.Boats(now); s == api.Clear && n < 1 {
					t.Error("Boats", station, h, n)
				}
			}
			if sure, s := batten.Hollow(b, station); s == api.Clear && sure == api.Open {
				yes := slices.ContainsFunc(o.boats, func(x []int) bool { return bends(x)[station-1] > 0 })
				no := slices.ContainsFunc(o.boats, func(x []int) bool { return bends(x)[station-1] <= 0 })
				if !yes || !no {
					t.Error("Hollow", station, yes, no)
				}
			}
		}
		line, n, _ := batten.Straightest(b)
		if is, s := batten.IsBoat(b, line); !is || s != api.Clear || strain(line) != n {
			t.Error("Straightest", line, n, is, s)
		}
		for range 5 {
			l := randomLine(r, b)
			near, moved, _ := batten.Nearest(b, l)
			if is, s := batten.IsBoat(b, near); !is || s != api.Clear {
				t.Error("Nearest", l, near, is, s)
			}
			if sum, _, _ := far(l, near); sum != moved {
				t.Error("Nearest", l, near, moved)
			}
		}
	})
}

func TestP2_8Best(t *testing.T) {
	eachBook(t, 100, func(t *testing.T, b api.BattenBook, o *oracle, r *rand.Rand) {
		_, least, _ := batten.Straightest(b)
		for _, x := range o.boats {
			if strain(x) < least {
				t.Error("Straightest", x, least)
			}
		}
		for range 8 {
			l := randomLine(r, b)
			_, moved, _ := batten.Nearest(b, l)
			pulled, _ := batten.Pulled(b, l)
			must, _ := batten.Must(b, l)
			for _, x := range o.boats {
				sum, _, stations := far(l, x)
				if sum < moved || len(stations) < len(pulled) {
					t.Error(l, x, moved, pulled)
				}
				for _, station := range must {
					if !slices.Contains(stations, station) || !slices.Contains(pulled, station) {
						t.Error("Must", l, x, must, pulled)
					}
				}
			}
		}
	})
}

func TestP2_10Stiffness(t *testing.T) {
	eachBook(t, 150, func(t *testing.T, b api.BattenBook, o *oracle, r *rand.Rand) {
		for _, change := range []func(b *api.BattenBook){
			func(b *api.BattenBook) { b.Bend++ },
			func(b *api.BattenBook) { b.Twist++ },
			func(b *api.BattenBook) { b.Turns++ },
			func(b *api.BattenBook) { b.Bend, b.Twist, b.Turns = 99, 99, 5 },
		} {
			soft := clone(b)
			change(&soft)
			if n, s := batten.Boats(soft); n < len(o.boats) || s != api.Clear {
				t.Error("Boats", soft, n, s)
			}
			for _, l := range o.boats[:min(len(o.boats), 10)] {
				if is, s := batten.IsBoat(soft, l); !is || s != api.Clear {
					t.Error("IsBoat", soft, l, is, s)
				}
			}
		}
	})
}
