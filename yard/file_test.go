package yard_test

import (
	"fmt"
	"math/rand"
	"slices"
	"strings"
	"testing"

	"ribband/api"
	"ribband/batten"
	"ribband/bevel"
	"ribband/butt"
	"ribband/frame"
	"ribband/mould"
	"ribband/offsets"
	"ribband/spile"
	"ribband/steam"
	"ribband/strake"
	"ribband/yard"
)

func TestP10_1Snags(t *testing.T) {
	for i, x := range []struct {
		change func(b *api.YardBook)
		want   api.Snag
	}{
		{func(b *api.YardBook) {}, api.Clear},
		{func(b *api.YardBook) { *b = api.YardBook{} }, api.Many},
		{func(b *api.YardBook) { b.Table.Waters[0].At = 200 }, api.Turned},
		{func(b *api.YardBook) { b.Table.Stations[1] = "a"; b.Line.Bend = -1 }, api.Again},
		{func(b *api.YardBook) { b.Line.Bend = -1; b.Frame.Points = nil }, api.Range},
		{func(b *api.YardBook) { b.Frame.Tapes[0].To = 3; b.Mould.Saw = 4 }, api.Absent},
		{func(b *api.YardBook) { b.Mould.Pieces[1].Name = ""; b.Strakes.Strakes = 0 }, api.Name},
		{func(b *api.YardBook) { b.Strakes.Strakes = 0; b.Butts.Kinds = nil }, api.Range},
		{func(b *api.YardBook) { b.Butts.Kinds[1].Long = 2; b.Spile.Points = nil }, api.Turned},
		{func(b *api.YardBook) { b.Spile.Points = nil; b.Bevel.Run = 0 }, api.Many},
		{func(b *api.YardBook) { b.Bevel.Run = 0; b.Steam.Planks = nil }, api.Range},
		{func(b *api.YardBook) { b.Steam.Planks[0].Name = "rib"; b.Bills[0].Part = 9 }, api.Again},
		{func(b *api.YardBook) { b.Bills = make([]api.YardBill, 4) }, api.Clear},
		{func(b *api.YardBook) { b.Bills = make([]api.YardBill, 5) }, api.Many},
		{func(b *api.YardBook) { b.Bills = make([]api.YardBill, 5); b.Bills[0].Part = 9 }, api.Many},
		{func(b *api.YardBook) { b.Bills[0] = api.YardBill{Part: 9, Price: -1} }, api.Absent},
		{func(b *api.YardBook) { b.Bills[0].Part = -1 }, api.Absent},
		{func(b *api.YardBook) { b.Bills[0].Part = 8 }, api.Clear},
		{func(b *api.YardBook) { b.Bills[0].Price = 9999 }, api.Clear},
		{func(b *api.YardBook) { b.Bills[0].Price = 10000 }, api.Range},
		{func(b *api.YardBook) { b.Bills[0] = api.YardBill{Price: -1, Paid: -1} }, api.Range},
		{func(b *api.YardBook) { b.Bills[0].Paid = 100 }, api.Clear},
		{func(b *api.YardBook) { b.Bills[0].Paid = 101 }, api.Range},
		{func(b *api.YardBook) { b.Bills[1].Paid = -1 }, api.Range},
		{func(b *api.YardBook) { b.Bills[0].Paid = -1; b.Bills[1].Part = 9 }, api.Range}, // the first bill decides
	} {
		b := bookY(t)
		x.change(&b)
		if s := yard.CheckBook(b); s != x.want {
			t.Error(i, s)
		}
	}
}

func TestP10_1Sum(t *testing.T) {
	long := strings.Repeat("\xffa", 25000)
	for text, want := range map[string]int{"": 0, "a": 97, "ab": 1747, "abc": 9852, "\n": 10, "\x00": 0, "\x00a": 97, "\xff": 255, "\u00e9": 195*17 + 169, long: sumOf(long)} {
		if n, s := yard.Sum(text); n != want || s != api.Clear {
			t.Errorf("%.10q: %v %v", text, n, s)
		}
	}
	if n, s := yard.Sum(long + "a"); n != 0 || s != api.Many {
		t.Error(n, s)
	}
}

func TestP10_1Written(t *testing.T) {
	if text, s := yard.Write(bookY(t)); text != fileOf(textsY()) || s != api.Clear {
		t.Error(text, s)
	}
	eachBook(t, 300, func(t *testing.T, b api.YardBook, r *rand.Rand) {
		texts := textsOf(t, b)
		file, s := yard.Write(b)
		if file != fileOf(texts) || s != api.Clear {
			t.Error(file, s)
		}
		for _, text := range []string{file, strings.TrimSuffix(file, "\n")} {
			now, line, s := yard.Read(text)
			if line != 0 || s != api.Clear || !equal(now, b) {
				t.Error(text, line, s)
			}
		}
	})
}

// readAgain reads a file, line by line from its beginning.
func readAgain(text string) (b api.YardBook, line int, s api.Snag) {
	if len(text) > 50000 {
		return b, 0, api.Many
	}
	lines := strings.Split(text, "\n")
	if lines[len(lines)-1] == "" {
		lines = lines[:len(lines)-1]
	}
	at := 0
	next := func() (string, bool) {
		at++
		if at > len(lines) {
			return "", false
		}
		return lines[at-1], true
	}
	none := api.YardBook{}
	for part, word := range words {
		if l, ok := next(); !ok || l != "begin "+word {
			return none, at, api.Form
		}
		begin, body := at, ""
		l, ok := next()
		for ; ok && l != "end" && !strings.HasPrefix(l, "end "); l, ok = next() {
			body += l + "\n"
		}
		if !ok {
			return none, at, api.Form
		}
		var sum int
		n, err := fmt.Sscanf(l, "end "+word+" %d", &sum)
		if n != 1 || err != nil || l != fmt.Sprintf("end %s %d", word, sum) || sum > 999999999 || sum < -999999999 {
			return none, at, api.Form
		}
		if sum != sumOf(body) {
			return none, at, api.Foul
		}
		if line, s := parsePart(&b, part, body); s != api.Clear {
			return none, begin + line, s
		}
	}
	if _, ok := next(); ok {
		return none, at, api.Form
	}
	return b, 0, api.Clear
}

func parsePart(b *api.YardBook, part int, text string) (line int, s api.Snag) {
	switch part {
	case 0:
		b.Table, line, s = offsets.Parse(text)
	case 1:
		b.Line, line, s = batten.Parse(text)
	case 2:
		b.Frame, line, s = frame.Parse(text)
	case 3:
		b.Mould, line, s = mould.Parse(text)
	case 4:
		b.Strakes, line, s = strake.Parse(text)
	case 5:
		b.Butts, line, s = butt.Parse(text)
	case 6:
		b.Spile, line, s = spile.Parse(text)
	case 7:
		b.Bevel, line, s = bevel.Parse(text)
	case 8:
		b.Steam, line, s = steam.Parse(text)
	case 9:
		b.Bills, line, s = parseBills(text)
	}
	return line, s
}

func parseBills(text string) (l []api.YardBill, line int, s api.Snag) {
	for text := range strings.Lines(text) {
		line++
		var x api.YardBill
		n, err := fmt.Sscanf(text, "bill %d %d %d\n", &x.Part, &x.Price, &x.Paid)
		if n != 3 || err != nil || text != billsText([]api.YardBill{x}) || max(x.Part, x.Price, x.Paid) > 999999999 {
			return nil, line, api.Form
		}
		l = append(l, x)
	}
	if len(l) > 4 {
		return nil, 0, api.Many
	}
	for _, x := range l {
		if x.Part < 0 || x.Part > 8 {
			return nil, 0, api.Absent
		}
		if x.Price < 0 || x.Price > 9999 || x.Paid < 0 || x.Paid > x.Price {
			return nil, 0, api.Range
		}
	}
	return l, 0, api.Clear
}

func TestP10_1Files(t *testing.T) {
	f := fileOf(textsY())
	swap := func(old, now string) string {
		if !strings.Contains(f, old) {
			t.Error(old)
		}
		return strings.Replace(f, old, now, 1)
	}
	first := f[:strings.Index(f, "begin batten")]
	bills := func(text string) string { return fileOf(but(9, text)) }
	for i, x := range []struct {
		text string
		line int
		s    api.Snag
	}{
		{f, 0, api.Clear},
		{f[:len(f)-1], 0, api.Clear},
		{strings.Repeat("x", 50001), 0, api.Many},
		{f + strings.Repeat("x", 50000-len(f)), 72, api.Form},
		{f + strings.Repeat("x", 50001-len(f)), 0, api.Many},
		// a part does not begin
		{"", 1, api.Form},
		{"\n", 1, api.Form},
		{"begin", 1, api.Form},
		{"begin batten\n", 1, api.Form},
		{"begin offsets \n", 1, api.Form},
		{" begin offsets\n", 1, api.Form},
		{swap("begin offsets", "begin offsets 1"), 1, api.Form},
		{swap("begin offsets", "BEGIN offsets"), 1, api.Form},
		{first, 9, api.Form},
		{first[:len(first)-1], 9, api.Form},
		{first + first, 9, api.Form},
		{first + "\n", 9, api.Form},
		{swap("begin frame", "begin  frame"), 16, api.Form},
		// or does not end
		{"begin offsets", 2, api.Form},
		{"begin offsets\noffsets 1\n", 3, api.Form},
		{"begin offsets\n\n", 3, api.Form},
		{"begin offsets\n end offsets 0\n", 3, api.Form},
		{"begin offsets\nends offsets 0\n", 3, api.Form},
		{swap("end bill", "ended bill"), 72, api.Form},
		{swap("end offsets", "the end offsets"), 15, api.Form}, // that of the next part has another word
		// or its end does not have its form
		{"begin offsets\nend", 2, api.Form},
		{"begin offsets\nend \n", 2, api.Form},
		{"begin offsets\nend offsets\n", 2, api.Form},
		{"begin offsets\nend offsets 0 0\n", 2, api.Form},
		{"begin offsets\nend  offsets 0\n", 2, api.Form},
		{"begin offsets\nend offsets 0 \n", 2, api.Form},
		{"begin offsets\nend batten 0\n", 2, api.Form},
		{"begin offsets\nend offsets x\n", 2, api.Form},
		{"begin offsets\nend offsets -0\n", 2, api.Form},
		{"begin offsets\nend offsets 00\n", 2, api.Form},
		{"begin offsets\nend offsets 1000000000\n", 2, api.Form},
		{"begin offsets\nend x\nend offsets 0\n", 2, api.Form},
		// or does not have this sum
		{"begin offsets\nend offsets 1\n", 2, api.Foul},
		{"begin offsets\nend offsets -1\n", 2, api.Foul},
		{"begin offsets\nend offsets 9973\n", 2, api.Foul},
		{swap("station a", "station c"), 8, api.Foul},
		{swap("mark 10", "mark 11"), 15, api.Foul},
		{swap("mark 10\n", "mark 10 \n"), 15, api.Foul}, // the sum comes before the form
		{swap("bill 3 100", "bill 3 99"), 71, api.Foul},
		// or has another snag
		{"begin offsets\nend offsets 0\n", 1, api.Form},
		{fileOf(but(0, "offsets 3\nstation a\n")), 1, api.Range},
		{fileOf(but(0, "offsets 1\nstations a\n")), 3, api.Form},
		{fileOf(but(1, "")), 9, api.Form},
		{fileOf(but(1, "batten 3 3 1\nmark 1\n\n")), 12, api.Form},
		{fileOf(but(1, "batten 3 3 1\nmark 1\nmark 1\n")), 9, api.Many},
		{fileOf(but(3, "mould 1\n")), 24, api.Many},
		{fileOf(but(8, "steam 2 1 12\nplank a 1 1 1\nplank a 1 1 1\n")), 61, api.Again},
		{bills(""), 0, api.Clear},
		{bills("bill 3 100\n"), 69, api.Form},
		{bills("bill 3 100 0 0\n"), 69, api.Form},
		{bills("bill 3 100 0\n\n"), 70, api.Form},
		{bills("bill 3 100 0\nbills 3 100 0\n"), 70, api.Form},
		{bills("bill 3 100 0\nbill 3 x 0\n"), 70, api.Form},
		{bills("bill 9 100 0\nbill 3 x 0\n"), 70, api.Form}, // the form comes before the snag of bills
		{bills("bill 9 100 0\n"), 68, api.Absent},
		{bills("bill 3 100 101\n"), 68, api.Range},
		{bills(strings.Repeat("bill 3 100 0\n", 4)), 0, api.Clear},
		{bills(strings.Repeat("bill 3 100 0\n", 5)), 68, api.Many},
		{bills(strings.Repeat("bill 3 100 0\n", 5) + "bill\n"), 74, api.Form},
		// or there is more behind the last one
		{f + "\n", 72, api.Form},
		{f + "x", 72, api.Form},
		{f + f, 72, api.Form},
		{f + "end bill 0\n\n", 72, api.Form},
		// what comes first decides
		{strings.Replace(swap("mark 10", "mark 11"), "station a", "station c", 1), 8, api.Foul},
		{strings.Replace(fileOf(but(2, "frame 21\n")), "mark 10", "mark 11", 1), 15, api.Foul},
	} {
		b, line, s := yard.Read(x.text)
		if line != x.line || s != x.s || s != api.Clear && !equal(b, api.YardBook{}) {
			t.Error(i, line, s)
		}
		if _, line, s := readAgain(x.text); line != x.line || s != x.s {
			t.Error(i, "read again", line, s)
		}
	}
}

// wrongPapers are texts of books that have a snag.
var wrongPapers = [10]string{
	"offsets 0\nstation a\nstation a\n",
	"batten 100 0 0\nmark 1\nmark 1\nmark 1\n",
	"frame 0\npoint 1 0\npoint 1 0\n",
	"mould 1\npiece a 1 0\npiece a 1 0\n",
	"strake 2 2 4 1 2\ngirth 5..6\ngirth 7\nmark 2 0 1\n",
	"butt 6 2 2 1 2\n",
	"spile 100 0\n",
	"bevel 1 1 1 1 0\noffset 1\noffset 1\n",
	"steam 1 1 1\nplank 1 1 1 1\n",
	"bill 9 0 0\n",
}

// spoiledFile is a file in which some lines were changed.
func spoiledFile(r *rand.Rand, texts [10]string) string {
	if r.Intn(3) == 0 {
		i := r.Intn(10)
		texts[i] = spoiledLines(r, texts[i]) // its sum is right
	}
	if r.Intn(3) == 0 {
		i := r.Intn(10)
		texts[i] = anyOf(r, []string{"", "\n", "end\n", wrongPapers[i], wrongPapers[i], papers[i][len(papers[i])-1], papers[(i+1)%10][0]})
	}
	if r.Intn(3) == 0 {
		return spoiledLines(r, fileOf(texts))
	}
	return fileOf(texts)
}

func spoiledLines(r *rand.Rand, text string) string {
	lines := strings.SplitAfter(text, "\n")
	i := r.Intn(len(lines))
	switch r.Intn(7) {
	case 0:
		lines = slices.Delete(lines, i, i+1)
	case 1:
		lines = slices.Insert(lines, i, lines[i])
	case 2:
		lines = slices.Insert(lines, i, anyOf(r, []string{"end\n", "\n", "begin frame\n", "end frame 7\n", "bill 3 10 10\n", "x"}))
	case 3:
		lines = lines[:i]
	case 4:
		k := r.Intn(len(lines))
		lines[i], lines[k] = lines[k], lines[i]
	case 5:
		lines[i] = strings.Replace(lines[i], " ", anyOf(r, []string{"  ", "\n", " 1 ", "", "+"}), 1)
	case 6:
		line := []byte(lines[i])
		if len(line) > 0 {
			line[r.Intn(len(line))] = anyOf(r, []byte("0123459 -.?ax\n\xff"))
		}
		lines[i] = string(line)
	}
	return strings.Join(lines, "")
}

func TestP10_1FilesEverything(t *testing.T) {
	snags, lines := map[api.Snag]int{}, map[int]bool{}
	eachBook(t, 400, func(t *testing.T, b api.YardBook, r *rand.Rand) {
		for range 10 {
			text := spoiledFile(r, textsOf(t, b))
			want, number, snag := readAgain(text)
			now, line, s := yard.Read(text)
			if line != number || s != snag || !equal(now, want) {
				t.Errorf("%q: %v %v, not %v %v", text, line, s, number, snag)
			}
			snags[s]++
			lines[line] = true
		}
	})
	for _, s := range []api.Snag{api.Clear, api.Range, api.Many, api.Form, api.Again, api.Absent, api.Turned, api.Foul} {
		if snags[s] < 20 {
			t.Error("files are too much alike", snags)
		}
	}
	if len(lines) < 60 {
		t.Error("files are too much alike", lines)
	}
}

func TestP10_1Differ(t *testing.T) {
	seen := map[int]int{}
	eachBook(t, 300, func(t *testing.T, b api.YardBook, r *rand.Rand) {
		texts := textsOf(t, b)
		var want []int
		for part := range texts {
			now := papers[part][r.Intn(len(papers[part]))]
			if r.Intn(2) == 0 && now != texts[part] {
				texts[part] = now
				want = append(want, part)
			}
		}
		seen[len(want)]++
		now := bookOf(t, texts)
		if l, s := yard.Differ(b, now); !slices.Equal(l, want) || s != api.Clear {
			t.Error(l, want, s)
		}
		if l, s := yard.Differ(now, b); !slices.Equal(l, want) || s != api.Clear {
			t.Error(l, want, s)
		}
		if l, s := yard.Differ(now, copied(now)); len(l) > 0 || s != api.Clear {
			t.Error(l, s)
		}
	})
	if len(seen) < 7 {
		t.Error("books are too much alike", seen)
	}
}

// Each number, name and list of a book makes a difference.
func TestP10_1DifferLittle(t *testing.T) {
	for part, changes := range [10][]func(b *api.YardBook){
		{
			func(b *api.YardBook) { b.Table.Wrong = 2 },
			func(b *api.YardBook) { b.Table.Stations[1] = "c" },
			func(b *api.YardBook) { b.Table.Waters[1].At = 129 },
			func(b *api.YardBook) { b.Table.Waters[0].Figures[0] = "-" },
			func(b *api.YardBook) { b.Table.Butts = nil },
		},
		{func(b *api.YardBook) { b.Line.Twist = 4 }, func(b *api.YardBook) { b.Line.Marks[1].Low = 13 }},
		{func(b *api.YardBook) { b.Frame.Plank = 3 }, func(b *api.YardBook) { b.Frame.Sticks[0].Fits = false }},
		{func(b *api.YardBook) { b.Mould.Boards[0].Knots = nil }, func(b *api.YardBook) { b.Mould.Pieces[0].Bears = 1 }},
		{func(b *api.YardBook) { b.Strakes.Bend = 3 }, func(b *api.YardBook) { b.Strakes.Marks[0].Strake = 0 }},
		{func(b *api.YardBook) { b.Butts.Between = 2 }, func(b *api.YardBook) { b.Butts.Kinds[1].Cost = 4 }},
		{func(b *api.YardBook) { b.Spile.Slip = 2 }, func(b *api.YardBook) { b.Spile.Points[2].Width = 3 }},
		{func(b *api.YardBook) { b.Bevel.Follow = 2 }, func(b *api.YardBook) { b.Bevel.Readings[1].Frame = 2 }},
		{func(b *api.YardBook) { b.Steam.Tide = 13 }, func(b *api.YardBook) { b.Steam.Notes[0].Planks[1] = 2 }},
		{func(b *api.YardBook) { b.Bills[1].Paid = 21 }, func(b *api.YardBook) { b.Bills = b.Bills[:1] }},
	} {
		for i, change := range changes {
			b := bookY(t)
			change(&b)
			if l, s := yard.Differ(bookY(t), b); !slices.Equal(l, on(part)) || s != api.Clear {
				t.Error(part, i, l, s)
			}
		}
	}
}

// A file of which a byte of a part's text is changed is never read as another book.
func TestP10_8(t *testing.T) {
	for _, texts := range [][10]string{textsY(), but(3, strings.Replace(papers[3][0], "keel", "end", 1))} {
		file := []byte(fileOf(texts))
		at := 0
		for part, text := range texts {
			at += len("begin " + words[part] + "\n")
			for i := range len(text) {
				for _, c := range []byte("0123456789 \nabdentz+-.,?\x00\xff") {
					was := file[at+i]
					file[at+i] = c
					if b, line, s := yard.Read(string(file)); c != was && (s == api.Clear || line == 0 || len(b.Bills) > 0) {
						t.Errorf("%s: the byte %d as %q: %v", words[part], i, c, s)
					}
					file[at+i] = was
				}
			}
			at += len(fmt.Sprintf("%send %s %d\n", text, words[part], sumOf(text)))
		}
		if _, _, s := yard.Read(string(file)); s != api.Clear || at != len(file) {
			t.Error(s, at)
		}
	}
}
