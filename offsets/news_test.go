package offsets_test

import (
	"reflect"
	"slices"
	"strings"
	"testing"

	"ribband/api"
	"ribband/offsets"
)

func TestP1_4ClashAndAsk(t *testing.T) {
	kinds := map[int]int{}
	asked := map[bool]int{}
	eachTable(t, 400, func(t *testing.T, b api.OffsetsTable) {
		o := newOracle(b)
		kinds[len(o.clash())]++
		if l, s := offsets.Clash(b); !slices.Equal(l, o.clash()) || s != api.Clear {
			t.Error("Clash", l, s, o.clash())
		}
		want := o.snagOf()
		c, left, found := o.ask()
		asked[found]++
		if d, n, is, s := offsets.Ask(b); d != c || n != left || is != found || s != want {
			t.Error("Ask", d, n, is, s, c, left, found)
		}
	})
	if kinds[0] < 10 || kinds[2] < 10 || asked[true] < 10 || asked[false] < 10 {
		t.Error("the tables are too much alike", kinds, asked)
	}
}

// Three cells can contradict each other, though no two of them do.
func TestP1_4ClashOfThree(t *testing.T) {
	b := parse(t, "offsets 0\nstation a\nstation b\nwater 1-0-0 1-0-0,1-2-1\nwater 2-0-0 1-0-0,1-?-0\nbutt 1-2-7 -,2-0-1\n")
	if l, s := offsets.Clash(b); !slices.Equal(l, []int{1, 3, 4}) || s != api.Clear {
		t.Error(l, s)
	}
	if l, s := offsets.Fewest(b); !slices.Equal(l, []int{1}) || s != api.Clear {
		t.Error(l, s)
	}
}

func TestP1_4AskEnds(t *testing.T) {
	for text, x := range map[string]struct {
		c     api.OffsetsCell
		left  int
		found bool
		s     api.Snag
	}{
		textA: {waterB, 6, true, api.Clear},
		textN: {api.OffsetsCell{}, 1, false, api.Clear},
		textC: {api.OffsetsCell{}, 0, false, api.Foul},
		// a cell that is wrong in all boats is not asked for
		"offsets 1\nstation a\nwater 0-1-0 9-0-0\nwater 0-2-0 1-0-0\nbutt 0-1-0 0-2-0\n": {api.OffsetsCell{}, 1, false, api.Clear},
		// of two cells with the fewest the first one
		"offsets 0\nstation a\nstation b\nwater 0-1-0 1-0-?,1-0-?\n": {api.OffsetsCell{}, 8, true, api.Clear},
		"offsets 1\nstation a\n": {api.OffsetsCell{}, 1, false, api.Clear},
	} {
		if c, left, found, s := offsets.Ask(parse(t, text)); c != x.c || left != x.left || found != x.found || s != x.s {
			t.Error(text, c, left, found, s)
		}
	}
}

func TestP1_4Read(t *testing.T) {
	with := func(figure string) string { return strings.Replace(textA, "1-?-0", figure, 1) }
	none := api.OffsetsCell{Butt: true, Line: 1}
	for i, x := range []struct {
		text   string
		c      api.OffsetsCell
		figure string
		want   string
		s      api.Snag
	}{
		{textA, waterB, "1-0-?", with("1-0-0"), api.Clear},
		{textA, waterB, "?-?-?", textA, api.Clear},
		{textA, waterB, "?-7-?", with("1-7-0"), api.Clear},
		{with("?-?-0"), waterB, "?-4-0", with("?-4-0"), api.Clear},
		{textA, waterB, "0-2-0", "", api.Foul},
		{textA, waterB, "1-2-1", "", api.Foul},
		{textA, buttB, "0-9-1", "", api.Foul},
		{textN, waterB, "1-1-0", "", api.Foul}, // the new table has no boat
		{textN, waterB, "1-0-0", strings.Replace(textN, "1-?-0", "1-0-0", 1), api.Clear},
		{textC, waterB, "1-2-0", "", api.Foul},
		{textC, waterB, "-", "", api.Form},
		{textA, waterB, "", "", api.Form},
		{textA, waterB, "1-12-0", "", api.Form},
		{textA, none, "1-0-0", "", api.Absent},
		{textA, none, "x", "", api.Absent},
		{with("-"), waterB, "1-0-0", "", api.Absent},
	} {
		b, s := offsets.Read(parse(t, x.text), x.c, x.figure)
		if s != x.s || s == api.Clear && printed(t, b) != x.want || s != api.Clear && !reflect.DeepEqual(b, api.OffsetsTable{}) {
			t.Error(i, b, s)
		}
	}
	b, _ := offsets.Read(parse(t, textA), waterB, "1-0-?")
	if n, s := offsets.Boats(b); n != 7 || s != api.Clear {
		t.Error(n, s)
	}
}

func TestP1_4Put(t *testing.T) {
	with := func(text, figure string) string { return strings.Replace(text, "0-9-0", figure, 1) }
	none := api.OffsetsCell{Butt: true, Line: -1}
	for i, x := range []struct {
		text   string
		c      api.OffsetsCell
		figure string
		want   string
		s      api.Snag
	}{
		{textA, buttB, "0-8-0", with(textA, "0-8-0"), api.Clear},
		{textA, buttB, "0-?-0", with(textA, "0-?-0"), api.Clear},
		{textA, buttB, "?-?-0", "", api.Many},
		{textA, buttB, "?-?-?", "", api.Many},
		{textA, waterB, "?-?-0", strings.Replace(textA, "1-?-0", "?-?-0", 1), api.Clear},
		{textC, buttB, "?-?-?", "", api.Many}, // the new table's snag comes before its boats
		{textC, buttB, "0-8-0", with(textC, "0-8-0"), api.Clear},
		{textN, waterB, "1-2-0", "", api.Foul},
		{textA, buttB, "-", "", api.Form},
		{textC, buttB, "0-8-8", "", api.Form},
		{textA, none, "-", "", api.Absent},
		{with(textA, "-"), buttB, "0-8-0", "", api.Absent},
	} {
		b, s := offsets.Put(parse(t, x.text), x.c, x.figure)
		if s != x.s || s == api.Clear && printed(t, b) != x.want || s != api.Clear && !reflect.DeepEqual(b, api.OffsetsTable{}) {
			t.Error(i, b, s)
		}
	}
	b, _ := offsets.Put(parse(t, textA), buttB, "0-8-0")
	if n, s := offsets.Boats(b); n != 38 || s != api.Clear {
		t.Error(n, s)
	}
}

func TestP1_4Drop(t *testing.T) {
	for i, x := range []struct {
		text string
		c    api.OffsetsCell
		want string
		s    api.Snag
	}{
		{textA, waterB, strings.Replace(textA, "1-?-0", "-", 1), api.Clear},
		{textC, buttB, strings.Replace(textC, "0-9-0", "-", 1), api.Clear},
		{strings.Replace(textC, "0-5-0", "9-0-0", 1), buttB, strings.NewReplacer("0-5-0", "9-0-0", "0-9-0", "-").Replace(textC), api.Clear}, // no boat is left
		{textA, api.OffsetsCell{Station: 2}, "", api.Absent},
		{textA, api.OffsetsCell{Station: -1}, "", api.Absent},
		{textA, api.OffsetsCell{Line: 2}, "", api.Absent},
		{strings.Replace(textA, "1-?-0", "-", 1), waterB, "", api.Absent},
	} {
		b, s := offsets.Drop(parse(t, x.text), x.c)
		if s != x.s || s == api.Clear && printed(t, b) != x.want || s != api.Clear && !reflect.DeepEqual(b, api.OffsetsTable{}) {
			t.Error(i, b, s)
		}
	}
}

// Of a table in which only the listed cells are measured.
func only(t *testing.T, b api.OffsetsTable, list []int) api.OffsetsTable {
	t.Helper()
	cells, _ := offsets.Cells(b)
	for i, c := range cells {
		if slices.Contains(list, i) {
			continue
		}
		now, s := offsets.Drop(b, c)
		if s != api.Clear {
			t.Fatal(s)
		}
		b = now
	}
	return b
}

func TestP1_9News(t *testing.T) {
	eachTable(t, 60, func(t *testing.T, b api.OffsetsTable) {
		o := newOracle(b)
		before, _ := offsets.Boats(b)
		for i, c := range o.cells {
			for _, n := range c.can[:min(len(c.can), 12)] {
				now, s := offsets.Read(b, c.OffsetsCell, figureOf(n))
				after, _ := offsets.Boats(now)
				if s == api.Clear && after > before || s == api.Foul && slices.Contains(o.can(i), n) || s != api.Clear && s != api.Foul {
					t.Error("Read", i, n, after, before, s)
				}
			}
			now, s := offsets.Drop(b, c.OffsetsCell)
			if s != api.Clear {
				t.Error("Drop", i, s)
			}
			for k, d := range o.cells {
				less, _ := offsets.Can(b, d.OffsetsCell)
				more, _ := offsets.Can(now, d.OffsetsCell)
				for _, n := range less {
					if k != i && !slices.Contains(more, n) {
						t.Error("Drop", i, k, n)
					}
				}
			}
		}
		clash, _ := offsets.Clash(b)
		if sound, _ := offsets.Sound(only(t, b, clash)); sound != (len(clash) == 0) {
			t.Error("Clash", clash)
		}
		for i := range clash {
			if sound, _ := offsets.Sound(only(t, b, slices.Delete(slices.Clone(clash), i, i+1))); !sound {
				t.Error("fewer clash", clash, i)
			}
		}
		if c, left, found, _ := offsets.Ask(b); found {
			i := slices.IndexFunc(o.cells, func(x trueCell) bool { return x.OffsetsCell == c })
			for _, n := range o.can(i) {
				many := 0
				for _, x := range o.boats {
					if x.is[i] == n {
						many++
					}
				}
				if many > left {
					t.Error("Ask", c, n, many, left)
				}
			}
		}
	})
}
