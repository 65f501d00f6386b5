package offsets_test

import (
	"math/rand"
	"reflect"
	"slices"
	"strings"
	"sync"
	"testing"

	"ribband/api"
	"ribband/offsets"
)

// calls calls each function that has a table among its arguments; the results come in this order, each with its snag last.
func calls(b api.OffsetsTable, c api.OffsetsCell, figure string, n int, list []int) [][]any {
	row := func(results ...any) []any { return results }
	var all [][]any
	add := func(results []any) { all = append(all, results) }
	add(row(offsets.CheckTable(b)))
	add(row(offsets.Cells(b)))
	add(row(offsets.IsBoat(b, list, list)))
	add(row(offsets.Boats(b)))
	add(row(offsets.Can(b, c)))
	add(row(offsets.Wrong(b, c)))
	add(row(offsets.Sound(b)))
	add(row(offsets.Fewest(b)))
	add(row(offsets.Breadth(b, c.Station, n)))
	add(row(offsets.Height(b, c.Station, n)))
	add(row(offsets.Clash(b)))
	add(row(offsets.Ask(b)))
	add(row(offsets.Read(b, c, figure)))
	add(row(offsets.Put(b, c, figure)))
	add(row(offsets.Drop(b, c)))
	add(row(offsets.Print(b)))
	return all
}

func isZero(v any) bool {
	r := reflect.ValueOf(v)
	return r.IsZero() || r.Kind() == reflect.Slice && r.Len() == 0
}

var strange = []int{-int(^uint(0)>>1) - 1, -1000, -1, 0, 1, 2, 3, 5, 959, 960, 1 << 40, int(^uint(0) >> 1)}

func strangeTable(r *rand.Rand) api.OffsetsTable {
	pick := func() int { return strange[r.Intn(len(strange))] }
	words := append([]string{"a", "b", "c", "-", "1-2-3", "?-0-0", "\xff\xfe", "a,b", "a b", "a\n"}, noFigures[:20]...)
	some := func(n int) []string {
		var l []string
		for range r.Intn(n) {
			l = append(l, words[r.Intn(len(words))])
		}
		return l
	}
	lines := func() []api.OffsetsLine {
		var l []api.OffsetsLine
		for range r.Intn(4) {
			l = append(l, api.OffsetsLine{At: pick(), Figures: some(5)})
		}
		return l
	}
	return api.OffsetsTable{Wrong: pick(), Stations: some(5), Waters: lines(), Butts: lines()}
}

func TestP0_1Always(t *testing.T) {
	r := rand.New(rand.NewSource(1))
	pick := func() int { return strange[r.Intn(len(strange))] }
	for range 3000 {
		b := strangeTable(r)
		if r.Intn(3) == 0 {
			b = randomTable(r)
		}
		c := api.OffsetsCell{Butt: r.Intn(2) == 0, Line: pick(), Station: pick()}
		l := []int{pick(), pick(), pick()}[:r.Intn(4)]
		figure := append(noFigures, "1-2-3", "?-?-?")[r.Intn(len(noFigures)+2)]
		n := pick()
		one := calls(b, c, figure, n, l)
		if two := calls(b, c, figure, n, l); !reflect.DeepEqual(one, two) {
			t.Fatal(b, c, figure, n, l)
		}
		offsets.Figure(n)
		offsets.Measure(figure)
		offsets.Parse(figure + strings.Repeat("\n", r.Intn(3)))
	}
	long := api.OffsetsTable{Stations: make([]string, 1<<20), Waters: make([]api.OffsetsLine, 1<<20)}
	if s := offsets.CheckTable(long); s != api.Many {
		t.Error(s)
	}
	one := parse(t, textA)
	if is, s := offsets.IsBoat(one, nil, make([]int, 1<<20)); is || s != api.Many {
		t.Error(is, s)
	}
}

func TestP0_1Together(t *testing.T) {
	b := parse(t, textA)
	want := calls(b, waterB, "1-0-?", 100, []int{0})
	var group sync.WaitGroup
	for range 16 {
		group.Add(1)
		go func() {
			defer group.Done()
			for range 20 {
				if got := calls(b, waterB, "1-0-?", 100, []int{0}); !reflect.DeepEqual(got, want) {
					t.Error(got)
				}
			}
		}()
	}
	group.Wait()
}

// The table's snag comes first, and with a snag all other results are zero.
func TestP0_2Snags(t *testing.T) {
	bad := parse(t, textC)
	bad.Wrong = 3
	for i, results := range calls(bad, api.OffsetsCell{Line: 7}, "x", -1, []int{-1}) {
		if results[len(results)-1] != api.Range {
			t.Error(i, results)
		}
	}
	r := rand.New(rand.NewSource(2))
	for range 500 {
		b := strangeTable(r)
		if r.Intn(2) == 0 {
			b = randomTable(r)
		}
		c := api.OffsetsCell{Butt: r.Intn(2) == 0, Line: r.Intn(3), Station: r.Intn(4)}
		want := offsets.CheckTable(b)
		for i, results := range calls(b, c, "1-0-0", 959+r.Intn(2), []int{r.Intn(2)}) {
			s := results[len(results)-1].(api.Snag)
			if want != api.Clear && s != want {
				t.Fatal(i, b, s)
			}
			if s != api.Clear && !slices.ContainsFunc(results[:len(results)-1], func(v any) bool { return !isZero(v) }) {
				continue
			}
			if s != api.Clear {
				t.Fatal(i, b, results)
			}
		}
	}
	// a cell or a station that is not there, before all that is said of the figure or the height; then those, before Foul
	foul := parse(t, textC)
	absent := []int{4, 5, 8, 9, 12, 13, 14}
	for i, results := range calls(foul, api.OffsetsCell{Station: 2}, "x", -1, nil) {
		s := results[len(results)-1].(api.Snag)
		if slices.Contains(absent, i) != (s == api.Absent) {
			t.Error(i, s)
		}
	}
	for i, want := range map[int]api.Snag{4: api.Foul, 5: api.Foul, 8: api.Range, 9: api.Range, 11: api.Foul, 12: api.Form, 13: api.Form} {
		if results := calls(foul, waterB, "x", -1, nil)[i]; results[len(results)-1] != want {
			t.Error(i, results)
		}
	}
}

// It makes no difference whether a slice is nil or empty (R3).
func TestEmpty(t *testing.T) {
	b := api.OffsetsTable{Wrong: 2, Stations: []string{"a"}}
	e := api.OffsetsTable{Wrong: 2, Stations: []string{"a"}, Waters: []api.OffsetsLine{}, Butts: []api.OffsetsLine{}}
	one, two := calls(b, waterB, "x", 1, nil), calls(e, waterB, "x", 1, []int{})
	for i := range one {
		for k := range one[i] {
			if isZero(one[i][k]) != isZero(two[i][k]) {
				t.Error(i, k, one[i], two[i])
			}
		}
	}
	if is, s := offsets.IsBoat(e, []int{}, []int{}); !is || s != api.Clear {
		t.Error(is, s)
	}
	if s := offsets.CheckTable(api.OffsetsTable{Stations: []string{}}); s != api.Many {
		t.Error(s)
	}
	zero := api.OffsetsTable{Stations: []string{"a"}, Waters: []api.OffsetsLine{{Figures: []string{}}}}
	if s := offsets.CheckTable(zero); s != api.Many {
		t.Error(s)
	}
}

func spoil(b api.OffsetsTable) {
	for i := range b.Stations {
		b.Stations[i] = "spoilt"
	}
	for _, lines := range [][]api.OffsetsLine{b.Waters, b.Butts} {
		for i := range lines {
			for k := range lines[i].Figures {
				lines[i].Figures[k] = "spoilt"
			}
			lines[i].At = -7
		}
	}
}

// No argument is changed, and no result shares memory with one (R4).
func TestMemory(t *testing.T) {
	for i, change := range []func(b api.OffsetsTable) (api.OffsetsTable, api.Snag){
		func(b api.OffsetsTable) (api.OffsetsTable, api.Snag) { return offsets.Read(b, waterB, "?-?-?") },
		func(b api.OffsetsTable) (api.OffsetsTable, api.Snag) { return offsets.Put(b, waterB, "1-?-0") },
		func(b api.OffsetsTable) (api.OffsetsTable, api.Snag) { return offsets.Drop(b, buttB) },
	} {
		b := parse(t, textA)
		now, s := change(b)
		if s != api.Clear || printed(t, b) != textA {
			t.Error(i, s, b)
		}
		text := printed(t, now)
		spoil(now)
		if printed(t, b) != textA {
			t.Error(i, b)
		}
		now, _ = change(b)
		spoil(b)
		if printed(t, now) != text {
			t.Error(i, now)
		}
	}
	b := parse(t, textA)
	wrong, measures := []int{5}, []int{115, 96, 144, 132, 40, 72}
	offsets.IsBoat(b, wrong, measures)
	calls(b, waterB, "1-0-0", 100, wrong)
	if printed(t, b) != textA || !slices.Equal(wrong, []int{5}) || !slices.Equal(measures, []int{115, 96, 144, 132, 40, 72}) {
		t.Error(b, wrong, measures)
	}
}

// What one table says of a boat does not contradict what another one, that is right, too, says of her.
func TestP0_4WhateverSheIs(t *testing.T) {
	eachTable(t, 40, func(t *testing.T, b api.OffsetsTable) {
		o := newOracle(b)
		for _, x := range o.boats[:min(len(o.boats), 20)] {
			now := b
			for i, c := range o.cells {
				figure := "0-0-0"
				if x.is[i] >= 0 {
					figure = figureOf(x.is[i])
				}
				read, s := offsets.Put(now, c.OffsetsCell, figure)
				if s != api.Clear {
					t.Error(now, c, figure, s)
				}
				now = read
			}
			var list []int
			measures := make([]int, len(o.cells))
			for i := range o.cells {
				if x.is[i] < 0 {
					list = append(list, i)
				} else {
					measures[i] = x.is[i]
				}
			}
			for _, known := range []api.OffsetsTable{b, now} {
				if is, s := offsets.IsBoat(known, list, measures); !is || s != api.Clear {
					t.Error(known, list, measures, is, s)
				}
			}
		}
	})
}

// What is read makes nothing possible that was not, and takes back nothing that was sure.
func TestP0_6KnowingMore(t *testing.T) {
	eachTable(t, 60, func(t *testing.T, b api.OffsetsTable) {
		cells, _ := offsets.Cells(b)
		was, _ := offsets.Fewest(b)
		for _, c := range cells {
			can, _ := offsets.Can(b, c)
			for _, n := range can[:min(len(can), 4)] {
				now, s := offsets.Read(b, c, figureOf(n))
				if s != api.Clear {
					t.Error(s)
				}
				if fewest, _ := offsets.Fewest(now); len(fewest) < len(was) {
					t.Error("Fewest", was, fewest)
				}
				for station := range b.Stations {
					more, _ := offsets.Breadth(b, station, 100)
					if less, _ := offsets.Breadth(now, station, 100); less.Low < more.Low || less.High > more.High {
						t.Error("Breadth", less, more)
					}
				}
				for _, d := range cells {
					less, _ := offsets.Can(now, d)
					more, _ := offsets.Can(b, d)
					for _, m := range less {
						if !slices.Contains(more, m) {
							t.Error("Can", d, less, more)
						}
					}
					before, _ := offsets.Wrong(b, d)
					if after, _ := offsets.Wrong(now, d); before != api.Open && after != before {
						t.Error("Wrong", d, before, after)
					}
				}
			}
		}
	})
}
