package offsets_test

import (
	"slices"
	"testing"

	"ribband/api"
	"ribband/offsets"
)

// snagOf is what functions return that need a boat.
func (o *oracle) snagOf() api.Snag {
	if len(o.boats) == 0 {
		return api.Foul
	}
	return api.Clear
}

func TestP1_2Boats(t *testing.T) {
	kinds := map[api.Snag]int{}
	sures := map[api.Sure]int{}
	eachTable(t, 400, func(t *testing.T, b api.OffsetsTable) {
		o := newOracle(b)
		want := o.snagOf()
		kinds[want]++
		if n, s := offsets.Boats(b); n != len(o.boats) || s != api.Clear {
			t.Error("Boats", n, s, len(o.boats))
		}
		if is, s := offsets.Sound(b); is != o.sound() || s != api.Clear {
			t.Error("Sound", is, s)
		}
		if l, s := offsets.Fewest(b); !slices.Equal(l, o.fewest()) || s != api.Clear {
			t.Error("Fewest", l, s, o.fewest())
		}
		for i, c := range o.cells {
			if l, s := offsets.Can(b, c.OffsetsCell); !slices.Equal(l, o.can(i)) || s != want {
				t.Error("Can", i, l, s, o.can(i))
			}
			sure := o.wrong(i)
			if want != api.Clear {
				sure = api.Open
			}
			sures[sure]++
			if v, s := offsets.Wrong(b, c.OffsetsCell); v != sure || s != want {
				t.Error("Wrong", i, v, s, sure)
			}
		}
	})
	if kinds[api.Foul] < 10 || kinds[api.Clear] < 10 || sures[api.Yes] < 10 || sures[api.No] < 10 || sures[api.Open] < 10 {
		t.Error("the tables are too much alike", kinds, sures)
	}
}

func TestP1_2IsBoat(t *testing.T) {
	eachTable(t, 120, func(t *testing.T, b api.OffsetsTable) {
		o := newOracle(b)
		seen := map[trueBoat]bool{}
		for _, x := range o.boats {
			seen[x] = true
		}
		for wrong := range uint(1) << min(len(o.cells), 6) {
			var list []int
			var x trueBoat
			x.wrong = wrong
			measures := make([]int, len(o.cells))
			for i, c := range o.cells {
				measures[i] = c.can[int(wrong)%len(c.can)]
				x.is[i] = measures[i]
				if wrong>>i&1 == 1 {
					list = append(list, i)
					x.is[i] = -1
				}
			}
			if is, s := offsets.IsBoat(b, list, measures); is != seen[x] || s != api.Clear {
				t.Error(list, measures, is, s)
			}
		}
		for _, x := range o.boats[:min(len(o.boats), 50)] {
			var list []int
			measures := slices.Clone(x.is[:len(o.cells)])
			for i, n := range measures {
				if n < 0 {
					list = append(list, i)
					measures[i] = 959
				}
			}
			if is, s := offsets.IsBoat(b, list, measures); !is || s != api.Clear {
				t.Error(list, measures, is, s)
			}
		}
	})
}

func TestP1_2IsBoatSnags(t *testing.T) {
	b := parse(t, textA)
	all := []int{115, 96, 144, 132, 40, 72}
	set := func(i, n int) []int {
		l := slices.Clone(all)
		l[i] = n
		return l
	}
	const most = int(^uint(0) >> 1)
	for i, x := range []struct {
		wrong, measures []int
		is              bool
		s               api.Snag
	}{
		{nil, all, true, api.Clear},
		{[]int{}, set(1, 97), false, api.Clear},   // the eighths are read
		{[]int{}, set(1, 88), false, api.Clear},   // and the feet
		{[]int{1}, set(1, 97), true, api.Clear},   // of a wrong cell nothing is looked at
		{[]int{1, 2}, all, false, api.Clear},      // more cells than can be wrong
		{[]int{5}, set(1, 136), false, api.Clear}, // above the higher waterline
		{[]int{6}, all, false, api.Absent},
		{[]int{-1}, all, false, api.Absent},
		{[]int{most}, nil, false, api.Absent},
		{[]int{2, 1, 7}, nil, false, api.Turned}, // number by number
		{[]int{2, 7, 1}, nil, false, api.Absent},
		{[]int{0, 0}, nil, false, api.Turned},
		{nil, all[:5], false, api.Many},
		{nil, append(slices.Clone(all), 1), false, api.Many},
		{[]int{0}, nil, false, api.Many},
		{nil, []int{-1, 0}, false, api.Many},
		{nil, set(0, -1), false, api.Range},
		{nil, set(5, 960), false, api.Range},
		{[]int{5}, set(5, most), false, api.Range},
		{[]int{0, 1}, set(0, -most-1), false, api.Range},
	} {
		if is, s := offsets.IsBoat(b, x.wrong, x.measures); is != x.is || s != x.s {
			t.Error(i, is, s)
		}
	}
	b.Wrong = 3
	if is, s := offsets.IsBoat(b, []int{9}, nil); is || s != api.Range {
		t.Error(is, s)
	}
	none := parse(t, textC)
	if is, s := offsets.IsBoat(none, nil, set(1, 112)); is || s != api.Clear {
		t.Error(is, s)
	}
}

func TestP1_2Examples(t *testing.T) {
	for i, x := range []struct {
		text   string
		boats  int
		can    []int
		wrong  api.Sure
		snag   api.Snag
		sound  bool
		fewest []int
		clash  []int
	}{
		{textA, 11, []int{96, 104, 112, 120, 128}, api.Open, api.Clear, true, nil, nil},
		{textN, 1, []int{96}, api.No, api.Clear, true, nil, nil},
		{textC, 0, nil, api.Open, api.Foul, false, []int{1}, []int{1, 5}},
		{"offsets 2\nstation a\nwater 0-0-0 1-0-0\nwater 0-0-1 0-8-0\n", 3, []int{96}, api.Open, api.Clear, false, []int{0}, []int{0, 1}},
		// the cell is wrong in all boats: there is nothing that it can be
		{"offsets 1\nstation a\nstation b\nwater 0-1-0 -,9-0-0\nwater 0-2-0 -,1-0-0\nbutt 0-1-0 -,0-2-0\n", 1, nil, api.Yes, api.Clear, false, []int{0}, []int{0, 1}},
	} {
		b := parse(t, x.text)
		c := waterB
		if len(b.Stations) == 1 {
			c.Station = 0
		}
		if n, s := offsets.Boats(b); n != x.boats || s != api.Clear {
			t.Error(i, n, s)
		}
		if l, s := offsets.Can(b, c); !slices.Equal(l, x.can) || s != x.snag {
			t.Error(i, l, s)
		}
		if v, s := offsets.Wrong(b, c); v != x.wrong || s != x.snag {
			t.Error(i, v, s)
		}
		if is, s := offsets.Sound(b); is != x.sound || s != api.Clear {
			t.Error(i, is, s)
		}
		if l, s := offsets.Fewest(b); !slices.Equal(l, x.fewest) || s != api.Clear {
			t.Error(i, l, s)
		}
		if l, s := offsets.Clash(b); !slices.Equal(l, x.clash) || s != api.Clear {
			t.Error(i, l, s)
		}
	}
	a := parse(t, textA)
	if v, s := offsets.Wrong(a, buttB); v != api.Open || s != api.Clear {
		t.Error(v, s)
	}
	if v, s := offsets.Wrong(parse(t, textN), buttB); v != api.No || s != api.Clear {
		t.Error(v, s)
	}
}

// Without cells, and with no more cells than can be wrong, all is well.
func TestP1_2FewCells(t *testing.T) {
	for text, want := range map[string]int{
		"offsets 2\nstation a\n":                                     1,
		"offsets 2\nstation a\nwater 0-0-0 -\n":                      1,
		"offsets 0\nstation a\nwater 0-0-0 9-11-7\n":                 1,
		"offsets 2\nstation a\nwater 0-0-0 0-0-0\n":                  2,
		"offsets 1\nstation a\nbutt 9-11-7 ?-?-0\n":                  121,
		"offsets 2\nstation a\nstation b\nbutt 0-0-0 0-?-0,?-0-0\n":  120 + 12 + 10 + 1,
		"offsets 2\nstation a\nwater 0-0-0 1-0-0\nwater 1-0-0 -\n":   2,
		"offsets 2\nstation a\nwater 0-0-0 1-0-0\nbutt 0-0-0 1-0-0":  3, // the buttock is above the waterline, that lies too far out
		"offsets 0\nstation a\nwater 1-0-0 0-6-0\nbutt 2-0-0 1-0-0":  1, // just at the height of the waterline it says nothing
		"offsets 0\nstation a\nwater 1-0-0 0-6-0\nbutt 2-0-0 0-11-7": 0,
		"offsets 0\nstation a\nwater 1-0-0 2-0-0\nbutt 2-0-0 0-11-7": 1, // "not below" and "not above" allow both to be equal
		"offsets 0\nstation a\nwater 1-0-0 2-0-0\nbutt 2-0-0 1-0-1":  1,
		"offsets 0\nstation a\nwater 1-0-0 2-0-1\nbutt 2-0-0 1-0-1":  0,
		"offsets 0\nstation a\nbutt 1-0-0 0-6-0\nbutt 2-0-0 0-6-0":   1,
		"offsets 0\nstation a\nbutt 1-0-0 0-6-1\nbutt 2-0-0 0-6-0":   0,
	} {
		if n, s := offsets.Boats(parse(t, text)); n != want || s != api.Clear {
			t.Error(text, n, s)
		}
	}
}

// A table of the greatest size: twelve cells, two parts smudged, two cells wrong.
func TestGreatestTable(t *testing.T) {
	b := parse(t, "offsets 2\nstation a\nstation b\nstation c\nwater 1-0-0 9-0-0,9-?-0,2-0-0\nwater 2-0-0 1-0-0,3-?-0,3-0-0\nbutt 3-0-0 3-0-0,2-0-0,9-0-0\nbutt 4-0-0 2-0-0,5-0-0,1-0-0\n")
	o := newOracle(b)
	if n, s := offsets.Boats(b); n != len(o.boats) || s != api.Clear {
		t.Error(n, s, len(o.boats))
	}
	if l, s := offsets.Fewest(b); !slices.Equal(l, o.fewest()) || s != api.Clear {
		t.Error(l, s, o.fewest())
	}
	if l, s := offsets.Clash(b); !slices.Equal(l, o.clash()) || s != api.Clear {
		t.Error(l, s, o.clash())
	}
}

func TestP1_6WhateverSheIs(t *testing.T) {
	eachTable(t, 60, func(t *testing.T, b api.OffsetsTable) {
		o := newOracle(b)
		fewest, _ := offsets.Fewest(b)
		for _, x := range o.boats[:min(len(o.boats), 40)] {
			wrong := 0
			for i, c := range o.cells {
				if x.is[i] < 0 {
					wrong++
					continue
				}
				if l, _ := offsets.Can(b, c.OffsetsCell); !slices.Contains(l, x.is[i]) {
					t.Error("Can", i, x.is[i], l)
				}
			}
			if len(fewest) > wrong {
				t.Error("Fewest", fewest, x)
			}
			for at := 0; at < 300; at += 60 {
				one := o.breadthOf(x, 0, at)
				if v, _ := offsets.Breadth(b, 0, at); v.Low > one.Low || v.High < one.High || one.Low > one.High {
					t.Error("Breadth", at, v, one)
				}
				one = o.heightOf(x, 0, at)
				if v, _ := offsets.Height(b, 0, at); v.Low > one.Low || v.High < one.High || one.Low > one.High {
					t.Error("Height", at, v, one)
				}
			}
		}
	})
}

// With a cell's figure replaced by one of the measures that it could be, and that cell right, there is a boat just if the measure is among Can.
func TestP1_7NoOthers(t *testing.T) {
	eachTable(t, 60, func(t *testing.T, b api.OffsetsTable) {
		o := newOracle(b)
		if len(o.boats) == 0 {
			return
		}
		for i, c := range o.cells {
			can, s := offsets.Can(b, c.OffsetsCell)
			if s != api.Clear {
				t.Error(s)
			}
			for _, n := range c.can {
				some := slices.ContainsFunc(o.boats, func(x trueBoat) bool { return x.is[i] == n })
				if some != slices.Contains(can, n) {
					t.Error(i, n, can)
				}
			}
			if sure, _ := offsets.Wrong(b, c.OffsetsCell); sure == api.Open {
				wrong := slices.ContainsFunc(o.boats, func(x trueBoat) bool { return x.is[i] < 0 })
				right := slices.ContainsFunc(o.boats, func(x trueBoat) bool { return x.is[i] >= 0 })
				if !wrong || !right {
					t.Error(i, wrong, right)
				}
			}
		}
	})
}

func TestP1_11Apart(t *testing.T) {
	alone := func(b api.OffsetsTable, station int) api.OffsetsTable {
		one := api.OffsetsTable{Stations: b.Stations[station : station+1]}
		for _, l := range b.Waters {
			one.Waters = append(one.Waters, api.OffsetsLine{At: l.At, Figures: l.Figures[station : station+1]})
		}
		for _, l := range b.Butts {
			one.Butts = append(one.Butts, api.OffsetsLine{At: l.At, Figures: l.Figures[station : station+1]})
		}
		return one
	}
	eachTable(t, 200, func(t *testing.T, b api.OffsetsTable) {
		b.Wrong = 0
		product := 1
		for station := range b.Stations {
			n, s := offsets.Boats(alone(b, station))
			if s != api.Clear {
				t.Error(s)
			}
			product *= n
		}
		if n, s := offsets.Boats(b); n != product || s != api.Clear {
			t.Error(n, product, s)
		}
	})
}
