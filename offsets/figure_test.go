package offsets_test

import (
	"slices"
	"strings"
	"testing"

	"ribband/api"
	"ribband/offsets"
)

func TestP1_1Measure(t *testing.T) {
	for n := 0; n <= api.MaxOffsetsMeasure; n++ {
		figure, s := offsets.Figure(n)
		if figure != figureOf(n) || s != api.Clear {
			t.Error(n, figure, s)
		}
		if least, most, many, s := offsets.Measure(figure); least != n || most != n || many != 1 || s != api.Clear {
			t.Error(figure, least, most, many, s)
		}
		for k := range 1 << 3 {
			parts := strings.Split(figure, "-")
			many := 1
			for i, size := range []int{10, 12, 8} {
				if k>>i&1 == 1 {
					parts[i] = "?"
					many *= size
				}
			}
			one := strings.Join(parts, "-")
			least, most, n, s := offsets.Measure(one)
			if n != many || s != api.Clear || figureOf(least) != strings.ReplaceAll(one, "?", "0") {
				t.Error(one, least, most, n, s)
			}
			if parts[1] == "?" {
				parts[1] = "11"
			}
			want := strings.Replace(strings.Join(parts, "-"), "?-", "9-", 1)
			if figureOf(most) != strings.ReplaceAll(want, "?", "7") {
				t.Error(one, most, want)
			}
		}
	}
	for _, n := range []int{-1, 960, int(^uint(0) >> 1), -int(^uint(0)>>1) - 1} {
		if figure, s := offsets.Figure(n); figure != "" || s != api.Range {
			t.Error(n, figure, s)
		}
	}
}

var noFigures = []string{
	"", "--", "---", "1", "1-2", "1-2-", "-1-2", "1--3", "1-2-3-4", "-1-2-3", "1--2-3", "1-2--3", "1-2-3-", "10-0-0", "0-12-0", "0-0-8", "0-0-9", "00-0-0", "0-00-0", "0-0-00", "01-0-0", "0-01-0", "0-0-07", "+1-0-0", "1-+2-0", " 1-0-0", "1-0-0 ", "1-0-0\n", "1 -0-0", "1-2-x", "a-2-3", "??-0-0", "?-??-0", "?", "?-?", "1?-0-0", "0-1?-0", "0-?1-0", "1/2/3", "1-2-\xff", "\xff-2-3", "1-2-\u0663", "1-:-0", "1-/-0", "1\u20132\u20133", "4294967297-0-0", "18446744073709551617-0-0", strings.Repeat("-", 100), strings.Repeat("0", 1<<20), strings.Repeat("1-", 1<<20),
}

func TestP1_1NoFigures(t *testing.T) {
	for _, figure := range append([]string{"-"}, noFigures...) {
		if least, most, many, s := offsets.Measure(figure); least != 0 || most != 0 || many != 0 || s != api.Form {
			t.Error(figure, least, most, many, s)
		}
	}
	for _, figure := range noFigures {
		b := api.OffsetsTable{Stations: []string{"a"}, Butts: []api.OffsetsLine{{Figures: []string{figure}}}}
		if s := offsets.CheckTable(b); s != api.Form {
			t.Error(figure, s)
		}
	}
}

func TestP1_1Examples(t *testing.T) {
	if least, most, many, s := offsets.Measure("1-?-0"); least != 96 || most != 184 || many != 12 || s != api.Clear {
		t.Error(least, most, many, s)
	}
	if figure, s := offsets.Figure(115); figure != "1-2-3" || s != api.Clear {
		t.Error(figure, s)
	}
	for figure, want := range map[string]int{"0-8-0": 64, "1-4-0": 128, "1-0-0": 96, "1-2-3": 115, "1-6-0": 144, "1-4-4": 132, "0-5-0": 40, "0-9-0": 72} {
		if least, _, _, _ := offsets.Measure(figure); least != want {
			t.Error(figure, least)
		}
	}
}

func TestP1_1Cells(t *testing.T) {
	eachTable(t, 100, func(t *testing.T, b api.OffsetsTable) {
		var want []api.OffsetsCell
		for _, c := range newOracle(b).cells {
			want = append(want, c.OffsetsCell)
		}
		if l, s := offsets.Cells(b); !slices.Equal(l, want) || s != api.Clear {
			t.Error(l, s, want)
		}
	})
	b := parse(t, strings.Replace(textA, "1-2-3", "-", 1))
	want := []api.OffsetsCell{{Station: 1}, {Line: 1}, {Line: 1, Station: 1}, {Butt: true}, {Butt: true, Station: 1}}
	if l, s := offsets.Cells(b); !slices.Equal(l, want) || s != api.Clear {
		t.Error(l, s)
	}
	b.Wrong = -1
	if l, s := offsets.Cells(b); len(l) > 0 || s != api.Range {
		t.Error(l, s)
	}
}

// Each change makes the table wrong in one more way, one that comes before all that were made already.
func TestP1_1SnagsInOrder(t *testing.T) {
	b := parse(t, "offsets 2\nstation a\nstation b\nwater 0-0-0 1-?-0,-\nwater 9-11-7 1-6-0,1-4-?\nbutt 0-0-0 0-5-0,0-9-0\nbutt 0-0-1 1-0-0,1-0-0\n")
	if s := offsets.CheckTable(b); s != api.Clear {
		t.Fatal(s)
	}
	line := b.Butts[1]
	many := []api.OffsetsLine{line, line, line}
	for i, x := range []struct {
		change func()
		want   api.Snag
	}{
		{func() { b.Butts[0].Figures[0] = "?-5-0" }, api.Many},
		{func() { b.Butts[1].Figures[1] = "1-0" }, api.Form},
		{func() { b.Butts[1].Figures = append(b.Butts[1].Figures, "") }, api.Many},
		{func() { b.Butts[1].At = 0 }, api.Turned},
		{func() { b.Butts[1].At = -1 }, api.Range},
		{func() { b.Butts[0].Figures[1] = "x" }, api.Form},
		{func() { b.Butts[0].Figures = nil }, api.Many},
		{func() { b.Butts[0].At = 960 }, api.Range},
		{func() { b.Butts = many }, api.Many},
		{func() { b.Waters[1].Figures[0] = "" }, api.Form},
		{func() { b.Waters[1].Figures = b.Waters[1].Figures[:1] }, api.Many},
		{func() { b.Waters[0].At, b.Waters[1].At = 959, 959 }, api.Turned},
		{func() { b.Waters[1].At = 960 }, api.Range},
		{func() { b.Waters[0].Figures[1] = "--" }, api.Form},
		{func() { b.Waters[0].Figures = nil }, api.Many},
		{func() { b.Waters[0].At = -1 }, api.Range},
		{func() { b.Waters = many }, api.Many},
		{func() { b.Stations[1] = "a" }, api.Again},
		{func() { b.Stations[1] = "1a" }, api.Name},
		{func() { b.Stations[0] = "" }, api.Name},
		{func() { b.Stations = []string{"a", "a", "A", "b"} }, api.Many},
		{func() { b.Stations = nil }, api.Many},
		{func() { b.Wrong = -1 }, api.Range},
		{func() { b.Wrong = 3 }, api.Range},
	} {
		x.change()
		if s := offsets.CheckTable(b); s != x.want {
			t.Error(i, s, x.want)
		}
	}
}

func TestP1_1Names(t *testing.T) {
	for name, want := range map[string]api.Snag{"a": api.Clear, "z9": api.Clear, "abcdefghij": api.Clear, "a000000000": api.Clear, "abcdefghijk": api.Name, "": api.Name, "0": api.Name, "9a": api.Name, "A": api.Name, "aB": api.Name, "a b": api.Name, "a\n": api.Name, "a-": api.Name, "a_": api.Name, "\u00e9": api.Name, "a\xff": api.Name, "a`": api.Name, "a{": api.Name, "a/": api.Name, "a:": api.Name} {
		if s := offsets.CheckTable(api.OffsetsTable{Stations: []string{"a1", name}}); s != want {
			t.Error(name, s)
		}
	}
	if s := offsets.CheckTable(api.OffsetsTable{Stations: []string{"a", "b", "a"}}); s != api.Again {
		t.Error(s)
	}
}

// A limit itself is allowed (R7).
func TestP1_1Limits(t *testing.T) {
	line := func(at int) api.OffsetsLine {
		return api.OffsetsLine{At: at, Figures: []string{"9-11-7", "0-0-0", "-"}}
	}
	b := api.OffsetsTable{Wrong: 2, Stations: []string{"a", "b", "c"}, Waters: []api.OffsetsLine{line(0), line(959)}, Butts: []api.OffsetsLine{line(0), line(1)}}
	b.Butts[0].Figures[1] = "?-?-0"
	if s := offsets.CheckTable(b); s != api.Clear {
		t.Error(s)
	}
	b.Butts[0].Figures[1] = "?-?-?"
	if s := offsets.CheckTable(b); s != api.Many {
		t.Error(s)
	}
}
