package yard_test

import (
	"fmt"
	"math/rand"
	"strings"
	"testing"

	"ribband/api"
	"ribband/frame"
	"ribband/yard"
)

// some is a span that has something in common with x, often.
func some(r *rand.Rand, x api.Span) api.Span {
	n := x.Low + r.Intn(max(x.High-x.Low, 0)+1)
	return to(n-r.Intn(2), n+r.Intn(2))
}

func anyOf[T any](r *rand.Rand, list []T) T { return list[r.Intn(len(list))] }

// indexOf is an index of so many things, mostly.
func indexOf(r *rand.Rand, many int) int {
	if many == 0 || r.Intn(12) == 0 {
		return many - r.Intn(2)*(many+1)
	}
	return r.Intn(many)
}

// figureOf is a figure that is like that of a cell, with some of its parts read.
func figureOf(r *rand.Rand, b api.OffsetsTable, butt bool, line, station int) string {
	lines := b.Waters
	if butt {
		lines = b.Butts
	}
	if line < 0 || line >= len(lines) || station < 0 || station >= len(b.Stations) {
		return "1-2-3"
	}
	figure := lines[line].Figures[station]
	for strings.Contains(figure, "?") {
		figure = strings.Replace(figure, "?", anyOf(r, []string{"0", "1", "2", "4"}), 1)
	}
	parts := strings.Split(figure, "-")
	if len(parts) == 3 {
		parts[r.Intn(3)] = anyOf(r, []string{"?", "?", "1"})
	}
	return strings.Join(parts, "-")
}

// likelyEntry is an entry that a book could well have, behind so many others.
func likelyEntry(r *rand.Rand, b api.YardBook, behind int) api.YardEntry {
	return likelyOf(r, b, behind, api.YardKind(r.Intn(14)))
}

// likelyOf is an entry of a kind that a book could well have.
func likelyOf(r *rand.Rand, b api.YardBook, behind int, kind api.YardKind) api.YardEntry {
	e := api.YardEntry{Hand: r.Intn(2), Kind: kind}
	switch e.Kind {
	case api.YardStrike:
		e.A = 1 + indexOf(r, behind)
	case api.YardFigure:
		e.A, e.B, e.C = r.Intn(2), r.Intn(2), indexOf(r, len(b.Table.Stations))
		e.S = figureOf(r, b.Table, e.A > 0, e.B, e.C)
	case api.YardHeight:
		e.A = r.Intn(len(b.Line.Marks))
		e.M = some(r, b.Line.Marks[e.A])
	case api.YardTape:
		e.A, e.B = 0, 1+indexOf(r, len(b.Frame.Points)-1)
		x, _ := frame.Girths(b.Frame, e.A, e.B)
		e.M = some(r, x)
	case api.YardStick:
		e.A, e.C = b.Frame.Points[1].Height-r.Intn(3), r.Intn(2)
		x, _ := frame.Between(b.Frame, e.A)
		e.B = some(r, x).High
	case api.YardLength:
		e.A = r.Intn(len(b.Mould.Pieces))
		e.M = some(r, b.Mould.Pieces[e.A].Length)
	case api.YardLose:
		e.A = indexOf(r, len(b.Mould.Boards))
	case api.YardMark:
		e.A, e.B = indexOf(r, len(b.Strakes.Girths)), r.Intn(b.Strakes.Strakes)
		e.M = some(r, to(b.Strakes.Least, b.Strakes.Most))
	case api.YardRotten:
		e.A = indexOf(r, len(b.Butts.Kinds))
	case api.YardCheck:
		e.A = indexOf(r, len(b.Spile.Points))
		e.M = some(r, to(b.Spile.Opening-6, b.Spile.Opening-3))
	case api.YardBevel:
		e.A = indexOf(r, len(b.Bevel.Offsets)-1)
		e.M = some(r, to(0, 4))
	case api.YardDrop:
		e.A = indexOf(r, len(b.Bevel.Readings))
	case api.YardTime:
		e.A = r.Intn(len(b.Steam.Planks))
		e.M = some(r, b.Steam.Planks[e.A].Steam)
	case api.YardPay:
		e.A, e.B = indexOf(r, len(b.Bills)), 1+r.Intn(20)
	}
	return e
}

var strange = []int{least, -1000000000, -999999999, -1, 0, 1, 2, 3, 8, 9, 12, 13, 14, 959, 960, 9999, 10000, 999999999, 1000000000, most}

func pick(r *rand.Rand) int { return anyOf(r, strange) }

func strangeEntry(r *rand.Rand) api.YardEntry {
	e := api.YardEntry{Hand: r.Intn(2), Kind: api.YardKind(r.Intn(16) - 1), A: r.Intn(2)}
	switch r.Intn(8) {
	case 0:
		e.Hand = pick(r)
	case 1:
		e.Kind = api.YardKind(pick(r))
	case 2:
		e.A = pick(r)
	case 3:
		e.B = pick(r)
	case 4:
		e.C = pick(r)
	case 5:
		e.M = to(pick(r), pick(r))
	case 6:
		e.S = anyOf(r, []string{"-", " ", "a b", "\n", "1-2-3", "?-?-?", "\xff", "--"})
	}
	return e
}

// spoiled is an entry with something in a field that it perhaps does not use.
func spoiled(r *rand.Rand, e api.YardEntry) api.YardEntry {
	switch r.Intn(6) {
	case 0:
		e.A = 1 - e.A
	case 1:
		e.B = 1 - e.B
	case 2:
		e.C = 2 - e.C
	case 3:
		e.M.Low--
	case 4:
		e.M.High++
	case 5:
		e.S += "1-2-3"
	}
	return e
}

func anyEntry(r *rand.Rand, b api.YardBook, behind int) api.YardEntry {
	switch r.Intn(8) {
	case 0:
		return strangeEntry(r)
	case 1:
		return spoiled(r, likelyEntry(r, b, behind))
	}
	return likelyEntry(r, b, behind)
}

// anyJournal is a journal in which much is struck, perhaps one that is about little.
func anyJournal(r *rand.Rand, b api.YardBook) (l []api.YardEntry) {
	about := anyOf(r, [][]api.YardKind{nil, {api.YardLength, api.YardPay}, {api.YardBevel, api.YardDrop}, {api.YardHeight, api.YardTime, api.YardPay}})
	for i := range r.Intn(api.MaxYardEntries + 1) {
		e := anyEntry(r, b, i)
		if len(about) > 0 {
			e = likelyOf(r, b, i, anyOf(r, about))
		}
		if r.Intn(4) == 0 {
			e = likelyOf(r, b, i, api.YardStrike)
		}
		if e.Kind == api.YardStrike && e.A >= 1 && e.A <= i && r.Intn(3) > 0 {
			e.Hand = l[e.A-1].Hand
		}
		l = append(l, e)
	}
	return l
}

var entryWords = [14]string{"strike", "figure", "height", "tape", "stick", "length", "lose", "mark", "rotten", "check", "bevel", "drop", "time", "pay"}

func spanText(x api.Span) string {
	if x.Low == x.High {
		return fmt.Sprint(x.Low)
	}
	return fmt.Sprintf("%d..%d", x.Low, x.High)
}

// lineOf is the line of an entry, or its snag.
func lineOf(e api.YardEntry) (string, api.Snag) {
	if e.Kind < 0 || e.Kind > 13 {
		return "", api.Range
	}
	for _, n := range on(e.Hand, e.A, e.B, e.C, e.M.Low, e.M.High) {
		if n < -999999999 || n > 999999999 {
			return "", api.Range
		}
	}
	s := e.S
	if strings.Contains(s, " ") || strings.Contains(s, "\n") || s == "-" {
		return "", api.Form
	}
	if s == "" {
		s = "-"
	}
	return fmt.Sprintf("entry %d %s %d %d %d %s %s", e.Hand, entryWords[e.Kind], e.A, e.B, e.C, spanText(e.M), s), api.Clear
}

func TestP10_3Put(t *testing.T) {
	for i, x := range []struct {
		e    api.YardEntry
		line string
		s    api.Snag
	}{
		{api.YardEntry{Hand: 1, Kind: api.YardPay, B: 60}, "entry 1 pay 0 60 0 0 -", api.Clear},
		{api.YardEntry{}, "entry 0 strike 0 0 0 0 -", api.Clear},
		{api.YardEntry{Kind: api.YardFigure, A: 1, B: 2, C: 3, S: "1-?-0"}, "entry 0 figure 1 2 3 0 1-?-0", api.Clear},
		{api.YardEntry{Kind: api.YardHeight, A: 1, M: to(12, 13)}, "entry 0 height 1 0 0 12..13 -", api.Clear},
		{api.YardEntry{Kind: api.YardTape, M: to(13, 12)}, "entry 0 tape 0 0 0 13..12 -", api.Clear}, // no snag of an entry by itself matters
		{api.YardEntry{Hand: -7, Kind: api.YardStick, A: -1, B: -2, C: -3, M: to(-4, -4), S: "--"}, "entry -7 stick -1 -2 -3 -4 --", api.Clear},
		{api.YardEntry{Hand: 999999999, Kind: api.YardLength, A: 999999999, B: 999999999, C: 999999999, M: to(-999999999, 999999999)}, "entry 999999999 length 999999999 999999999 999999999 -999999999..999999999 -", api.Clear},
		{api.YardEntry{Hand: 1000000000}, "", api.Range},
		{api.YardEntry{Hand: -1000000000}, "", api.Range},
		{api.YardEntry{A: 1000000000}, "", api.Range},
		{api.YardEntry{B: -1000000000}, "", api.Range},
		{api.YardEntry{C: 1000000000}, "", api.Range},
		{api.YardEntry{M: to(-1000000000, 0)}, "", api.Range},
		{api.YardEntry{M: to(0, 1000000000)}, "", api.Range},
		{api.YardEntry{Kind: 14}, "", api.Range},
		{api.YardEntry{Kind: -1}, "", api.Range},
		{api.YardEntry{Kind: 14, S: " "}, "", api.Range},
		{api.YardEntry{A: most, S: "-"}, "", api.Range}, // numbers come before the string
		{api.YardEntry{S: "-"}, "", api.Form},
		{api.YardEntry{S: " "}, "", api.Form},
		{api.YardEntry{S: "a b"}, "", api.Form},
		{api.YardEntry{S: "a\n"}, "", api.Form},
		{api.YardEntry{S: "\t\r\xff"}, "entry 0 strike 0 0 0 0 \t\r\xff", api.Clear},
		{api.YardEntry{Kind: api.YardMark, S: "none"}, "entry 0 mark 0 0 0 0 none", api.Clear},
	} {
		if line, s := yard.Put(x.e); line != x.line || s != x.s {
			t.Errorf("%v: %q %v", i, line, s)
		}
	}
	for kind, word := range entryWords {
		if line, s := yard.Put(api.YardEntry{Kind: api.YardKind(kind)}); line != "entry 0 "+word+" 0 0 0 0 -" || s != api.Clear {
			t.Error(kind, line, s)
		}
	}
}

func TestP10_3Take(t *testing.T) {
	for line, want := range map[string]api.YardEntry{
		"entry 1 pay 0 60 0 0 -":       {Hand: 1, Kind: api.YardPay, B: 60},
		"entry 0 figure 1 2 3 0 1-?-0": {Kind: api.YardFigure, A: 1, B: 2, C: 3, S: "1-?-0"},
		"entry 0 time 1 0 0 3..2 --":   {Kind: api.YardTime, A: 1, M: to(3, 2), S: "--"},
		"entry -5 drop -1 0 0 -7 \xff": {Hand: -5, Kind: api.YardDrop, A: -1, M: one(-7), S: "\xff"},
	} {
		if e, s := yard.Take(line); e != want || s != api.Clear {
			t.Error(line, e, s)
		}
	}
	for _, line := range []string{
		"", "\n", "entry", "entry ", "ask cut 2", "entry 0 pay", "entry 0 pay 0 0 0 0", "entry 0 pay 0 0 0 0 - -", "entry 0 pay 0 0 0 0 ", "entry 0 pay 0 0 0 0 - ",
		" entry 0 pay 0 0 0 0 -", "entry  0 pay 0 0 0 0 -", "entry 0 pay 0 0 0  -", "Entry 0 pay 0 0 0 0 -", "entries 0 pay 0 0 0 0 -",
		"entry 0 paid 0 0 0 0 -", "entry 0 PAY 0 0 0 0 -", "entry 0 0 0 0 0 0 -", "entry 0 - 0 0 0 0 -", "entry pay 0 0 0 0 0 -",
		"entry x pay 0 0 0 0 -", "entry 0 pay x 0 0 0 -", "entry 0 pay 0 x 0 0 -", "entry 0 pay 0 0 x 0 -", "entry 0 pay 0 0 0 x -",
		"entry 00 pay 0 0 0 0 -", "entry -0 pay 0 0 0 0 -", "entry 0 pay +1 0 0 0 -", "entry 0 pay 0 1000000000 0 0 -", "entry 0 pay 0 0 1..2 0 -",
		"entry 0 pay 0 0 0 1..1 -", "entry 0 pay 0 0 0 1.. -", "entry 0 pay 0 0 0 1+2 -", "entry 0 pay 0 0 0 none -",
		"entry 0 pay 0 0 0 0 -\n", "entry 0 pay 0 0 0 0 a\nb", "entry 0 pay\n 0 0 0 0 -", "\nentry 0 pay 0 0 0 0 -", "entry 0 pay 0 0 0\n 0 -",
	} {
		if e, s := yard.Take(line); e != (api.YardEntry{}) || s != api.Form {
			t.Errorf("%q: %v %v", line, e, s)
		}
	}
}

// What is put is taken as it was.
func TestP10_3PutTaken(t *testing.T) {
	put := map[api.Snag]int{}
	eachBook(t, 400, func(t *testing.T, b api.YardBook, r *rand.Rand) {
		for range 20 {
			e := anyEntry(r, b, 5)
			want, snag := lineOf(e)
			line, s := yard.Put(e)
			put[s]++
			if line != want || s != snag {
				t.Error(e, line, s)
			}
			if again, s := yard.Take(line); snag == api.Clear && (again != e || s != api.Clear) {
				t.Error(line, again, s)
			}
		}
	})
	if put[api.Clear] < 3000 || put[api.Range] < 200 || put[api.Form] < 15 {
		t.Error("entries are too much alike", put)
	}
}

func TestP10_3Examples(t *testing.T) {
	y := bookY(t)
	figure := func(a, b, c int, s string) api.YardEntry {
		return api.YardEntry{Kind: api.YardFigure, A: a, B: b, C: c, S: s}
	}
	for i, x := range []struct {
		e        api.YardEntry
		part     int // of which a piece of the text, old, is now another one
		old, now string
		s        api.Snag
	}{
		{figure(0, 0, 1, "1-0-?"), 0, "1-?-0", "1-0-0", api.Clear},
		{figure(1, 0, 1, "0-9-?"), 0, "", "", api.Clear},
		{figure(0, 1, 0, "1-5-0"), 0, "", "", api.Foul},
		{figure(0, 2, 0, "1-5-0"), 0, "", "", api.Absent},
		{figure(1, 1, 0, "1-5-0"), 0, "", "", api.Absent},
		{figure(0, 0, 2, "1-5-0"), 0, "", "", api.Absent},
		{figure(0, 0, 0, "1-5"), 0, "", "", api.Form},
		{figure(2, 0, 0, "1-2-3"), 0, "", "", api.Range},
		{figure(-1, 0, 0, "1-2-3"), 0, "", "", api.Range},
		{api.YardEntry{Kind: api.YardHeight, A: 1, M: to(13, 20)}, 1, "mark 12..13", "mark 13", api.Clear},
		{api.YardEntry{Kind: api.YardHeight, A: 4, M: one(13)}, 1, "", "", api.Absent},
		{api.YardEntry{Kind: api.YardHeight, A: 1, M: to(3, 2)}, 1, "", "", api.Range},
		{api.YardEntry{Kind: api.YardHeight, A: 1, B: 1, M: one(13)}, 1, "", "", api.Form},
		{api.YardEntry{Kind: api.YardTape, A: 1, B: 2, M: to(9, 10)}, 2, "tape 0 1 5\n", "tape 0 1 5\ntape 1 2 9..10\n", api.Clear},
		{api.YardEntry{Kind: api.YardTape, A: 2, B: 1, M: to(9, 10)}, 2, "", "", api.Turned},
		{api.YardEntry{Kind: api.YardStick, A: 8, B: 10}, 2, "fits\n", "fits\nstick 8 10 not\n", api.Clear},
		{api.YardEntry{Kind: api.YardStick, A: 8, B: 10, C: 1}, 2, "fits\n", "fits\nstick 8 10 fits\n", api.Clear},
		{api.YardEntry{Kind: api.YardStick, A: 8, B: 10, C: 2}, 2, "", "", api.Range},
		{api.YardEntry{Kind: api.YardStick, A: 8, B: 10, C: -1}, 2, "", "", api.Range},
		{api.YardEntry{Kind: api.YardStick, A: 8, B: 10, C: 2, S: "x"}, 2, "", "", api.Form},
		{api.YardEntry{Kind: api.YardLength, A: 2, M: to(3, 9)}, 3, "arm 2..3", "arm 3", api.Clear},
		{api.YardEntry{Kind: api.YardLength, A: 2, M: one(9)}, 3, "", "", api.Foul},
		{api.YardEntry{Kind: api.YardLose}, 3, "board elm 8 3\n", "", api.Clear},
		{api.YardEntry{Kind: api.YardLose, A: 2}, 3, "", "", api.Absent},
		{api.YardEntry{Kind: api.YardMark, A: 2, B: 1, M: to(3, 4)}, 4, "mark 0 1 3\n", "mark 0 1 3\nmark 2 1 3..4\n", api.Clear},
		{api.YardEntry{Kind: api.YardMark, A: 2, B: 1, M: one(1)}, 4, "", "", api.Foul},
		{api.YardEntry{Kind: api.YardRotten}, 5, "kind 2 1 2..3", "kind 2 1 1..2", api.Clear},
		{api.YardEntry{Kind: api.YardRotten, A: 2}, 5, "", "", api.Absent},
		{api.YardEntry{Kind: api.YardCheck, A: 1, M: to(4, 5)}, 6, "check 2 6..7\n", "check 2 6..7\ncheck 1 4..5\n", api.Clear},
		{api.YardEntry{Kind: api.YardCheck, A: 1, M: to(5, 4)}, 6, "", "", api.Range},
		{api.YardEntry{Kind: api.YardBevel, A: 2, M: to(0, 1)}, 7, "reading 1 2\n", "reading 1 2\nreading 2 0..1\n", api.Clear},
		{api.YardEntry{Kind: api.YardBevel, A: 3, M: to(0, 1)}, 7, "", "", api.Absent},
		{api.YardEntry{Kind: api.YardDrop, A: 1}, 7, "reading 1 2\n", "", api.Clear},
		{api.YardEntry{Kind: api.YardDrop, A: 1, M: one(1)}, 7, "", "", api.Form},
		{api.YardEntry{Kind: api.YardTime, A: 1, M: one(3)}, 8, "rib 2..3", "rib 3", api.Clear},
		{api.YardEntry{Kind: api.YardTime, A: 1, M: to(0, 3)}, 8, "", "", api.Range},
		{api.YardEntry{Kind: api.YardTime, A: 1, M: one(3), S: "x"}, 8, "", "", api.Form},
		{api.YardEntry{Kind: api.YardPay, A: 2, B: 1}, 9, "", "", api.Absent},
		{api.YardEntry{Kind: api.YardPay, A: -1, B: 0}, 9, "", "", api.Absent},
		{api.YardEntry{Kind: api.YardPay, B: 0}, 9, "", "", api.Range},
		{api.YardEntry{Kind: api.YardPay, B: 10000}, 9, "", "", api.Range},
		{api.YardEntry{Kind: api.YardPay, B: -1}, 9, "", "", api.Range},
		{api.YardEntry{Kind: api.YardPay, B: 9999}, 9, "", "", api.Scant},
		{api.YardEntry{Kind: api.YardPay, B: 1, C: 1}, 9, "", "", api.Form},
		{api.YardEntry{Kind: api.YardStrike, A: 1}, 9, "", "", api.Turned},
		{api.YardEntry{Kind: api.YardStrike, A: 1, B: 1}, 9, "", "", api.Form},
		{api.YardEntry{Kind: api.YardStrike, A: 1, Hand: 2}, 9, "", "", api.Range},
		{api.YardEntry{Kind: 14, B: 1}, 9, "", "", api.Range},
		{api.YardEntry{Kind: -1}, 9, "", "", api.Range},
		{api.YardEntry{Hand: 2, Kind: api.YardLose, C: 1}, 9, "", "", api.Range},
		{api.YardEntry{Hand: -1, Kind: api.YardLose}, 9, "", "", api.Range},
		{api.YardEntry{Hand: 1, Kind: api.YardLose, A: 1}, 3, "board oak 6 none\n", "", api.Clear},
	} {
		now, s := yard.Do(y, x.e)
		if s != x.s {
			t.Error(i, s)
		}
		if s != api.Clear {
			continue
		}
		text := papers[x.part][0]
		if x.old != "" {
			text = strings.Replace(text, x.old, x.now, 1)
		}
		if got := textsOf(t, now); got != but(x.part, text) {
			t.Error(i, got)
		}
	}
}

func TestP10_3Paying(t *testing.T) {
	texts := but(3, papers[3][1])
	texts[9] = "bill 3 100 0\nbill 8 50 20\nbill 3 9999 9990\n"
	b := bookOf(t, texts)
	pay := func(bill, n int) api.YardEntry { return api.YardEntry{Kind: api.YardPay, A: bill, B: n} }
	for i, x := range []struct {
		e    api.YardEntry
		want string
		s    api.Snag
	}{
		{pay(0, 1), "bill 3 100 1\nbill 8 50 20\nbill 3 9999 9990\n", api.Clear},
		{pay(0, 100), "bill 3 100 100\nbill 8 50 20\nbill 3 9999 9990\n", api.Clear},
		{pay(0, 101), "", api.Foul},
		{pay(1, 1), "", api.Scant},
		{pay(1, 31), "", api.Scant}, // before Foul
		{pay(2, 9), "bill 3 100 0\nbill 8 50 20\nbill 3 9999 9999\n", api.Clear},
		{pay(2, 10), "", api.Foul},
		{pay(2, 9999), "", api.Foul},
		{pay(2, 10000), "", api.Range},
		{pay(3, 0), "", api.Absent},
	} {
		now, s := yard.Do(b, x.e)
		if s != x.s || billsText(now.Bills) != x.want {
			t.Error(i, now.Bills, s)
		}
	}
}

// Whatever is done in a book, it is what the chapters' functions do.
func TestP10_3Everything(t *testing.T) {
	did, snags := map[api.YardKind]int{}, map[api.Snag]int{}
	eachBook(t, 500, func(t *testing.T, b api.YardBook, r *rand.Rand) {
		for range 20 {
			e := anyEntry(r, b, 5)
			want, snag := api.YardBook{}, ownSnag(e)
			if snag == api.Clear && e.Kind == api.YardStrike {
				snag = api.Turned
			}
			if snag == api.Clear {
				want, snag = done(t, b, e)
			}
			now, s := yard.Do(b, e)
			snags[s]++
			if s != snag || !equal(now, want) {
				t.Error(b, e, now, s, snag)
			}
			if s == api.Clear {
				did[e.Kind]++
				b = now
			}
		}
	})
	for kind := api.YardFigure; kind <= api.YardPay; kind++ {
		if did[kind] < 20 {
			t.Error("too little is done", did)
		}
	}
	for _, s := range []api.Snag{api.Clear, api.Range, api.Many, api.Form, api.Absent, api.Turned, api.Scant, api.Foul} {
		if snags[s] < 20 {
			t.Error("books are too much alike", snags)
		}
	}
}
