package batten_test

import (
	"math/rand"
	"reflect"
	"slices"
	"strings"
	"testing"

	"ribband/api"
	"ribband/batten"
)

func TestP2_3Examples(t *testing.T) {
	b, c := parse(t, textB), parse(t, textC)
	if at, left, s := batten.Ask(b); at != 1 || left != 4 || s != api.Clear {
		t.Error(at, left, s)
	}
	now, s := batten.Measure(b, 1, to(13, 20))
	if n, _ := batten.Boats(now); n != 3 || s != api.Clear {
		t.Error(now, n, s)
	}
	now, s = batten.Note(b, api.BattenRule{A: 1, B: 3})
	if n, _ := batten.Boats(now); n != 2 || s != api.Clear {
		t.Error(now, n, s)
	}
	now.Rules = append(now.Rules, api.BattenRule{A: 0, B: 1, Rise: one(2)})
	if l, s := batten.Clash(now); !slices.Equal(l, []int{0, 1}) || s != api.Clear {
		t.Error(l, s)
	}
	now, s = batten.Splice(b, c, 2)
	if n, _ := batten.Boats(now); n != 2 || s != api.Clear {
		t.Error(now, n, s)
	}
	if want := []api.Span{one(10), to(12, 13), one(14), one(13), to(11, 12)}; !slices.Equal(now.Marks, want) || now.Bend != 3 || now.Twist != 2 || now.Turns != 1 || len(now.Rules) > 0 {
		t.Error(now)
	}
}

func TestP2_3Clash(t *testing.T) {
	for i, x := range []struct {
		text string
		want []int
		s    api.Snag
	}{
		{textB, nil, api.Clear},
		{textB + "rule 0 1 2\nrule 0 1 2\nrule 0 1 2..3\nrule 0 3 3..4\n", nil, api.Clear},
		{textNone, nil, api.Scant},
		{textNone + "rule 0 1 7\n", nil, api.Scant},
		{textB + "rule 0 1 4\n", []int{0}, api.Clear},
		{textB + "rule 0 1 2\nrule 0 1 4\nrule 0 1 5\n", []int{1}, api.Clear},       // one is fewer than two
		{textB + "rule 0 1 2\nrule 0 2 4\nrule 0 1 3\n", []int{0, 2}, api.Clear},    // there is nothing else
		{textB + "rule 0 1 2\nrule 0 1 3\nrule 0 1 2\n", []int{0, 1}, api.Clear},    // the least list
		{textB + "rule 0 2 3..4\nrule 0 1 3\nrule 0 1 2\n", []int{1, 2}, api.Clear}, // the first one is innocent
		{textB + "rule 1 2 1\nrule 2 3 0\nrule 1 3 0\n", []int{0, 1, 2}, api.Clear}, // only all together
		{textB + "rule 0 2 4\nrule 0 3 4\nrule 0 1 3\nrule 1 3 0\n", []int{1, 3}, api.Clear},
	} {
		if l, s := batten.Clash(parse(t, x.text)); !slices.Equal(l, x.want) || s != x.s {
			t.Error(i, l, s)
		}
	}
}

func TestP2_3Ask(t *testing.T) {
	for i, x := range []struct {
		text     string
		at, left int
		s        api.Snag
	}{
		{textB, 1, 4, api.Clear},
		{textOpen, 0, 3, api.Clear}, // the last station would do as well
		{textC, 2, 1, api.Clear},
		{"batten 0 0 0\nmark 5\nmark 5\nmark 5\n", -1, 1, api.Clear},
		{"batten 1 1 0\nmark 1..3\nmark 5\nmark 5..7\nrule 0 1 2\nrule 1 2 2\n", -1, 1, api.Clear}, // one boat, for all of the marks
		{textNone, 0, 0, api.Foul},
	} {
		if at, left, s := batten.Ask(parse(t, x.text)); at != x.at || left != x.left || s != x.s {
			t.Error(i, at, left, s)
		}
	}
}

func TestP2_3Measure(t *testing.T) {
	for i, x := range []struct {
		station int
		x       api.Span
		want    string
		s       api.Snag
	}{
		{1, to(13, 20), strings.Replace(textB, "12..13", "13", 1), api.Clear},
		{1, to(0, 12), strings.Replace(textB, "12..13", "12", 1), api.Clear},
		{1, to(12, 13), textB, api.Clear},
		{1, to(0, 959), textB, api.Clear},
		{0, one(10), textB, api.Clear},
		{0, to(11, 12), "", api.Foul},
		{0, to(0, 9), "", api.Foul},
		{4, one(10), "", api.Absent},
		{-1, one(10), "", api.Absent},
		{most, one(10), "", api.Absent},
		{3, to(13, 960), "", api.Range},
		{3, to(-1, 13), "", api.Range},
		{3, to(14, 13), "", api.Range},
		{3, to(least, most), "", api.Range},
		{3, to(most, least), "", api.Range},
	} {
		now, s := batten.Measure(parse(t, textB), x.station, x.x)
		if text, _ := batten.Print(now); text != x.want || s != x.s {
			t.Error(i, text, s)
		}
	}
	// the mark is left something, but no line is fair
	b := parse(t, "batten 1 9 5\nmark 5..7\nmark 5\nmark 5\n")
	if now, s := batten.Measure(b, 0, one(7)); s != api.Foul || len(now.Marks) > 0 {
		t.Error(now, s)
	}
}

func TestP2_3Note(t *testing.T) {
	full := textB + strings.Repeat("rule 0 1 2..3\n", api.MaxBattenRules)
	for i, x := range []struct {
		text string
		r    api.BattenRule
		want string
		s    api.Snag
	}{
		{textB, api.BattenRule{A: 1, B: 3}, textB + "rule 1 3 0\n", api.Clear},
		{textB + "rule 1 3 0\n", api.BattenRule{A: 0, B: 1, Rise: to(-959, 959)}, textB + "rule 1 3 0\nrule 0 1 -959..959\n", api.Clear},
		{textB, api.BattenRule{A: 1, B: 1}, "", api.Turned},
		{textB, api.BattenRule{A: 2, B: 1, Rise: to(1, 0)}, "", api.Turned},
		{textB, api.BattenRule{A: 0, B: 4, Rise: to(1, 0)}, "", api.Absent},
		{textB, api.BattenRule{A: -1, B: 4}, "", api.Absent},
		{textB, api.BattenRule{A: 0, B: 1, Rise: to(-960, 0)}, "", api.Range},
		{textB, api.BattenRule{A: 0, B: 1, Rise: to(0, 960)}, "", api.Range},
		{textB, api.BattenRule{A: 0, B: 1, Rise: to(4, 9)}, "", api.Foul},
		{textB + "rule 1 3 0\n", api.BattenRule{A: 0, B: 1, Rise: one(2)}, "", api.Foul},
		{full, api.BattenRule{A: 0, B: 1, Rise: one(2)}, "", api.Many},
		{full, api.BattenRule{A: 9}, "", api.Many},
		{strings.TrimSuffix(full, "rule 0 1 2..3\n"), api.BattenRule{A: 0, B: 1, Rise: to(2, 3)}, full, api.Clear},
	} {
		now, s := batten.Note(parse(t, x.text), x.r)
		if text, _ := batten.Print(now); text != x.want || s != x.s {
			t.Error(i, text, s)
		}
	}
}

func TestP2_3Splice(t *testing.T) {
	flat := "batten 9 8 5\n" + strings.Repeat("mark 5\n", 5)
	high := strings.ReplaceAll(flat, "mark 5", "mark 9")
	both := "batten 3 2 1\nmark 10\nmark 12..13\nmark 14\nmark 13\nmark 11..12\n"
	for i, x := range []struct {
		a, b string
		over int
		want string
		s    api.Snag
	}{
		{textB, textC, 2, both, api.Clear},
		{textB, textC + "rule 0 1 -1\nrule 0 2 -3..-2\n", 2, both + "rule 2 3 -1\nrule 2 4 -3..-2\n", api.Clear},
		{textB + "rule 0 3 3\n", textC + "rule 1 2 -2..-1\n", 2, both + "rule 0 3 3\nrule 3 4 -2..-1\n", api.Clear},
		{flat, "batten 2 9 0\nmark 4..6\nmark 3..5\nmark 5..7\n", 3, "batten 2 8 0\n" + strings.Repeat("mark 5\n", 5), api.Clear}, // nothing is left over
		{"batten 2 9 0\nmark 4..6\nmark 3..5\nmark 5..7\n", flat, 3, "batten 2 8 0\n" + strings.Repeat("mark 5\n", 5), api.Clear},
		{flat, flat, 3, flat + "mark 5\nmark 5\n", api.Clear},
		{flat, flat, 2, "", api.Many},
		{flat, flat, 5, flat, api.Clear},
		{flat, flat, 6, "", api.Range},
		{flat, flat, 1, "", api.Range},
		{flat, high, 2, "", api.Many}, // too many stations, or rules, come before marks that do not meet
		{flat, high, 3, "", api.Foul},
		{flat + strings.Repeat("rule 0 1 0\n", 2), high + strings.Repeat("rule 0 1 0\n", 3), 3, "", api.Many},
		{flat + strings.Repeat("rule 0 1 0\n", 2), high + strings.Repeat("rule 0 1 0\n", 2), 3, "", api.Foul},
		{textB, textC, 4, "", api.Range},
		{textC, textB, 4, "", api.Range},
		{textB, textC, -1, "", api.Range},
		{textB, textC, 3, "", api.Foul},                  // 12 to 13 and 14
		{textB + "rule 0 3 4\n", textC, 2, "", api.Foul}, // the marks meet, but then 13 is too low
		{flat + "rule 0 1 0\nrule 0 1 0\n", flat + "rule 0 1 0\nrule 0 4 0\n", 4, flat + "mark 5\nrule 0 1 0\nrule 0 1 0\nrule 1 2 0\nrule 1 5 0\n", api.Clear},
		{flat + "rule 0 1 0\nrule 0 1 0\n", flat + strings.Repeat("rule 0 1 0\n", 3), 4, "", api.Many},
		{flat + "rule 0 1 0\n", flat + strings.Repeat("rule 0 1 0\n", 4), 9, "", api.Range},
	} {
		now, s := batten.Splice(parse(t, x.a), parse(t, x.b), x.over)
		if text, _ := batten.Print(now); text != x.want || s != x.s {
			t.Error(i, text, s)
		}
	}
}

func TestP2_3Everything(t *testing.T) {
	clashes, asked := map[int]int{}, map[bool]int{}
	eachBook(t, 600, func(t *testing.T, b api.BattenBook, o *oracle, r *rand.Rand) {
		list, _, snag := o.clash()
		clashes[len(list)]++
		if l, s := batten.Clash(b); !slices.Equal(l, list) || s != snag {
			t.Error("Clash", l, s, list, snag)
		}
		at, left := o.ask()
		if len(o.boats) == 0 {
			at, left = 0, 0
		}
		asked[left > 0 && at >= 0]++
		if i, n, s := batten.Ask(b); i != at || n != left || s != o.snag() {
			t.Error("Ask", i, n, s, at, left)
		}
		station, x := r.Intn(len(b.Marks)), to(r.Intn(api.MaxBattenHeight), api.MaxBattenHeight)
		if r.Intn(3) > 0 {
			x = to(max(b.Marks[station].Low+r.Intn(3)-1, 0), min(b.Marks[station].High+r.Intn(2), api.MaxBattenHeight))
		}
		measured := clone(b)
		measured.Marks[station] = to(max(x.Low, b.Marks[station].Low), min(x.High, b.Marks[station].High))
		now, s := batten.Measure(b, station, x)
		switch {
		case x.Low > x.High:
			if s != api.Range {
				t.Error("Measure", station, x, s)
			}
		case len(newOracle(measured).boats) == 0:
			if s != api.Foul {
				t.Error("Measure", station, x, s)
			}
		case s != api.Clear || !reflect.DeepEqual(now, measured):
			t.Error("Measure", station, x, now, s)
		}
	})
	if clashes[1] < 20 || clashes[2] < 20 || asked[true] < 100 || asked[false] < 20 {
		t.Error("the books are too much alike", clashes, asked)
	}
}

// Each rule is right about some fair line, so that more of them clash together.
func TestP2_3ClashTogether(t *testing.T) {
	clashes := map[int]int{}
	eachBook(t, 400, func(t *testing.T, b api.BattenBook, o *oracle, r *rand.Rand) {
		if len(o.fair) == 0 {
			return
		}
		b.Rules = nil
		for range api.MaxBattenRules {
			l := o.fair[r.Intn(len(o.fair))]
			a := r.Intn(len(l) - 1)
			c := a + 1 + r.Intn(len(l)-a-1)
			b.Rules = append(b.Rules, api.BattenRule{A: a, B: c, Rise: one(l[c] - l[a])})
		}
		list, _, _ := newOracle(b).clash()
		clashes[len(list)]++
		if l, s := batten.Clash(b); !slices.Equal(l, list) || s != api.Clear {
			t.Error(b, l, s, list)
		}
	})
	if clashes[0] < 20 || clashes[2] < 20 || clashes[3] < 10 {
		t.Error("the books are too much alike", clashes)
	}
}

// What is noted or measured never adds a boat; see also TestP0_6KnowingMore.
func TestP2_9NothingIsAdded(t *testing.T) {
	eachBook(t, 100, func(t *testing.T, b api.BattenBook, o *oracle, r *rand.Rand) {
		for _, now := range knowingMore(r, b) {
			for _, l := range newOracle(now).boats {
				if !o.has(l) {
					t.Error(now, l)
				}
			}
		}
	})
}

func TestP2_9Clash(t *testing.T) {
	tried := 0
	eachBook(t, 400, func(t *testing.T, b api.BattenBook, o *oracle, r *rand.Rand) {
		list, s := batten.Clash(b)
		if s != api.Clear || len(list) == 0 {
			return
		}
		tried++
		alone := clone(b)
		alone.Rules = nil
		for _, i := range list {
			alone.Rules = append(alone.Rules, b.Rules[i])
		}
		if n, _ := batten.Boats(alone); n > 0 {
			t.Error("they do not clash", list, n)
		}
		_, all, _ := o.clash()
		for _, other := range all {
			if len(other) < len(list) {
				t.Error("fewer clash", list, other)
			}
		}
		for i := range alone.Rules {
			fewer := clone(alone)
			fewer.Rules = slices.Delete(fewer.Rules, i, i+1)
			if n, _ := batten.Boats(fewer); n == 0 {
				t.Error("one is needless", list, i)
			}
		}
	})
	if tried < 40 {
		t.Error("too few clashes", tried)
	}
}

func TestP2_9Ask(t *testing.T) {
	eachBook(t, 200, func(t *testing.T, b api.BattenBook, o *oracle, r *rand.Rand) {
		at, left, s := batten.Ask(b)
		if s != api.Clear {
			return
		}
		for station, m := range b.Marks {
			worst := 0
			for h := m.Low; h <= m.High; h++ {
				if now, s := batten.Measure(b, station, one(h)); s == api.Clear {
					n, _ := batten.Boats(now)
					worst = max(worst, n)
				}
			}
			if worst < left || station == at && worst != left || at >= 0 && station < at && worst == left {
				t.Error(at, left, station, worst)
			}
		}
	})
}

// The boats of a spliced batten are lines that both battens allow.
func TestP2_9Splice(t *testing.T) {
	tried := 0
	eachBook(t, 1500, func(t *testing.T, a api.BattenBook, o *oracle, r *rand.Rand) {
		b := randomBook(r)
		over := 2 + r.Intn(2)
		for i := range min(over, len(b.Marks)) { // so that they often meet
			m := a.Marks[len(a.Marks)-over+i]
			b.Marks[i] = to(max(m.Low-r.Intn(2), 0), m.High)
			b.Marks[i].High = min(b.Marks[i].High, b.Marks[i].Low+2)
		}
		for i := over; i < len(b.Marks); i++ {
			h := max(2*b.Marks[i-1].Low-b.Marks[i-2].Low+r.Intn(3)-1, 0)
			b.Marks[i] = to(min(h, 957), min(h, 957)+r.Intn(3))
		}
		if batten.CheckBook(b) != api.Clear {
			return
		}
		now, s := batten.Splice(a, b, over)
		if s != api.Clear {
			return
		}
		tried++
		p := newOracle(b)
		n := newOracle(now)
		for _, l := range n.boats {
			if !o.has(l[:len(a.Marks)]) || !p.has(l[len(a.Marks)-over:]) {
				t.Error(b, over, now, l)
			}
		}
		// and there is no other line that both allow, and that is fair by the stiffer one
		many := 0
		for _, x := range o.boats {
			for _, y := range p.boats {
				if slices.Equal(x[len(x)-over:], y[:over]) {
					l := slices.Concat(x, y[over:])
					if fair(now, l) {
						many++
					}
				}
			}
		}
		if got, s := batten.Boats(now); got != many || s != api.Clear {
			t.Error(b, over, now, got, many)
		}
	})
	if tried < 60 {
		t.Error("too few are spliced", tried)
	}
}

func TestP2_11Order(t *testing.T) {
	eachBook(t, 300, func(t *testing.T, b api.BattenBook, o *oracle, r *rand.Rand) {
		if len(b.Rules) < 2 {
			return
		}
		x := clone(b)
		place := r.Perm(len(b.Rules)) // where each rule was
		for i, was := range place {
			x.Rules[i] = b.Rules[was]
		}
		l := randomLine(r, b)
		one, two := lineCalls(b, l), lineCalls(x, l)
		for station := range b.Marks {
			one = append(one, row(batten.Heights(b, station)), row(batten.Hollow(b, station)))
			two = append(two, row(batten.Heights(x, station)), row(batten.Hollow(x, station)))
		}
		one = append(one, row(batten.Boats(b)), row(batten.Straightest(b)), row(batten.Ask(b)))
		two = append(two, row(batten.Boats(x)), row(batten.Straightest(x)), row(batten.Ask(x)))
		if !reflect.DeepEqual(one, two) {
			t.Error(one, two)
		}
		before, s := batten.Clash(b)
		after, v := batten.Clash(x)
		var was []int
		for _, i := range after {
			was = append(was, place[i])
		}
		slices.Sort(was)
		_, all, _ := o.clash()
		same := slices.ContainsFunc(all, func(list []int) bool { return slices.Equal(list, was) })
		if s != v || len(before) != len(after) || len(after) > 0 && !same {
			t.Error(place, before, after, s, v)
		}
	})
}
