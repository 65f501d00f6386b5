package offsets_test

import (
	"testing"

	"ribband/api"
	"ribband/offsets"
)

func span(low, high int) api.Span { return api.Span{Low: low, High: high} }

func TestP1_3Between(t *testing.T) {
	eachTable(t, 150, func(t *testing.T, b api.OffsetsTable) {
		o := newOracle(b)
		want := o.snagOf()
		for station := range b.Stations {
			for _, at := range []int{0, 1, 31, 32, 33, 48, 64, 72, 95, 96, 97, 128, 144, 160, 200, 958, 959} {
				breadth, height := api.Span{}, api.Span{}
				if want == api.Clear {
					breadth, height = o.within(o.breadthOf, station, at), o.within(o.heightOf, station, at)
				}
				if v, s := offsets.Breadth(b, station, at); v != breadth || s != want {
					t.Error("Breadth", station, at, v, s, breadth)
				}
				if v, s := offsets.Height(b, station, at); v != height || s != want {
					t.Error("Height", station, at, v, s, height)
				}
			}
		}
	})
}

func TestP1_3Examples(t *testing.T) {
	const most = int(^uint(0) >> 1)
	for i, x := range []struct {
		text        string
		station, at int
		breadth     api.Span
		height      api.Span
		s           api.Snag
	}{
		{textN, 1, 96, span(96, 132), span(72, 72), api.Clear},
		{textN, 1, 100, span(96, 132), span(72, 128), api.Clear},
		{"offsets 2\nstation a\n", 0, 5, span(0, 959), span(0, 959), api.Clear},
		{"offsets 0\nstation a\nwater 0-0-0 -\n", 0, 0, span(0, 959), span(0, 959), api.Clear},
		// just at the measures of the other lines these are no bounds
		{"offsets 0\nstation a\nbutt 1-0-0 0-5-0\n", 0, 40, span(0, 959), span(0, 40), api.Clear},
		{"offsets 0\nstation a\nbutt 1-0-0 0-5-0\n", 0, 39, span(0, 96), span(0, 40), api.Clear},
		{"offsets 0\nstation a\nbutt 1-0-0 0-5-0\n", 0, 41, span(96, 959), span(0, 40), api.Clear},
		{textA, 2, 0, span(0, 0), span(0, 0), api.Absent},
		{textA, -1, -1, span(0, 0), span(0, 0), api.Absent},
		{textC, most, 0, span(0, 0), span(0, 0), api.Absent},
		{textC, 0, -1, span(0, 0), span(0, 0), api.Range},
		{textA, 1, 960, span(0, 0), span(0, 0), api.Range},
		{textA, 1, most, span(0, 0), span(0, 0), api.Range},
		{textC, 0, 0, span(0, 0), span(0, 0), api.Foul},
	} {
		b := parse(t, x.text)
		if v, s := offsets.Breadth(b, x.station, x.at); v != x.breadth || s != x.s {
			t.Error(i, v, s)
		}
		if v, s := offsets.Height(b, x.station, x.at); v != x.height || s != x.s {
			t.Error(i, v, s)
		}
	}
}

func TestP1_8Rising(t *testing.T) {
	eachTable(t, 40, func(t *testing.T, b api.OffsetsTable) {
		for station := range b.Stations {
			var breadth, height api.Span
			for at := 0; at <= api.MaxOffsetsMeasure; at += 7 {
				v, _ := offsets.Breadth(b, station, at)
				w, _ := offsets.Height(b, station, at)
				if v.Low < breadth.Low || v.High < breadth.High || w.Low < height.Low || w.High < height.High {
					t.Error(station, at, breadth, v, height, w)
				}
				breadth, height = v, w
			}
		}
	})
}

func TestP1_10TurnedAbout(t *testing.T) {
	eachTable(t, 100, func(t *testing.T, b api.OffsetsTable) {
		about := b
		about.Waters, about.Butts = b.Butts, b.Waters
		n, _ := offsets.Boats(b)
		if m, s := offsets.Boats(about); m != n || s != api.Clear {
			t.Error(m, n, s)
		}
		for at := 0; at < 250; at += 12 {
			v, s := offsets.Breadth(b, 0, at)
			w, u := offsets.Height(about, 0, at)
			if v != w || s != u {
				t.Error(at, v, w, s, u)
			}
			v, s = offsets.Height(b, 0, at)
			w, u = offsets.Breadth(about, 0, at)
			if v != w || s != u {
				t.Error(at, v, w, s, u)
			}
		}
	})
}
